/- Proved here: the contract of retain.joined: all messages of some lists, one behind the other, in memory of its own. Helper contract. -/
import Derived.Test.YtknbgnoahfeigaaGreatDoorZMDrop
namespace Go.Proofs.YtknbgnoahfeigaaGreatDoor.M
open Go.RowKit
set_option maxRecDepth 100000

/-- lists in a row -/
def Rows3 (w : World) (g : Nat) (vs : List Value) (ls : List (List Mg)) : Prop := vs.length = ls.length ∧ ∀ i, i < vs.length → w.cell? ⟨g, i, none⟩ = some (vs.getD i undef) ∧ Mgs w (vs.getD i undef) (ls.getD i [])
theorem Rows3.below {w w' : World} {g : Nat} {vs : List Value} {ls : List (List Mg)} (h : Rows3 w g vs ls) (hb : Below w.heap.size w w') : Rows3 w' g vs ls := ⟨h.1, fun i hi => ⟨(hb.cell (cell_lt (h.2 i hi).1)).trans (h.2 i hi).1, (h.2 i hi).2.below hb⟩⟩
theorem flat_snoc (ls : List (List Mg)) (k : Nat) (h : k < ls.length) : (ls.take (k + 1)).flatten = (ls.take k).flatten ++ ls.getD k [] := by
  rw [List.take_add_one, List.getElem?_eq_getElem h, List.flatten_append, List.getD_eq_getElem?_getD, List.getElem?_eq_getElem h]
  simp
theorem JI.nxt {L l : List Mg} {k : Nat} {qs : List Mq} {u : Mg} {s : Value} (h : qs.map (·.1) = L ++ l.take k) (hf : l.take (k + 1) = l.take k ++ [u]) : (qs ++ [(u, s)]).map (·.1) = L ++ l.take (k + 1) := by
  rw [hf, List.map_append, h, List.append_assoc]
  rfl
theorem take_flat_le (ls : List (List Mg)) (k : Nat) : (ls.take k).flatten.length ≤ ls.flatten.length := by
  have h : ls.flatten = (ls.take k).flatten ++ (ls.drop k).flatten := by rw [← List.flatten_append, List.take_append_drop]
  rw [h, List.length_append]
  omega
set_option maxHeartbeats 8000000 in
theorem joined_any (g cap n : Nat) (vs : List Value) (ls : List (List Mg)) (w : World) (hn : vs.length = n) (hn4 : n ≤ 4) (hmx : ls.flatten.length ≤ 1000000000) (hr : Rows3 w g vs ls) :
    Calls Tryz.prog 33 #[.slice (some ⟨g, 0, none⟩) n cap] w fun e w' => ∃ v qs, e = .returned v ∧ Hid (OwnMs w' w.heap.size v qs ∧ qs.map (·.1) = ls.flatten) ∧ Below w.heap.size w w' := by
  obtain ⟨i0, hi, hz0, hz1, hz2⟩ := info_parts infoMsg
  have HR := hide hr
  have HN := hide hn
  have HMX := hide hmx
  clear hr hn hmx
  go_enter Tryz.func33, Tryz.ntmps33
  go_wp2
  go_loopw [3, 10] (fun v i wr => ∃ (k : Nat) (qs : List Mq), k ≤ n ∧ i = .int .i64 k ∧ Hid (OwnMs wr w.heap.size v qs) ∧ Hid (qs.map (·.1) = (ls.take k).flatten) ∧ Hid (Below w.heap.size w wr)) (fun _ i _ => n - (intOf i).toNat)
  case atStart => exact ⟨0, [], Nat.zero_le _, rfl, OwnMs.nil _ _, rfl, Below.refl _ _⟩
  case round =>
    obtain ⟨k, qs, hk, rfl, HOWN, HQ, HBEL⟩ := hrel
    by_cases hlt : k < n
    · obtain ⟨hc0, hmg⟩ := (unhide HR).2 k (by rw [unhide HN]; exact hlt)
      have hc := ((unhide HBEL).cell (cell_lt hc0)).trans hc0
      clear hc0
      have HFS := hide (flat_snoc ls k (by rw [← (unhide HR).1, unhide HN]; exact hlt))
      generalize ls.getD k [] = l at hmg HFS
      obtain ⟨ao, c, hv, hcap, hcase⟩ := hmg
      rw [hv] at hc
      rcases hcase with rfl | ⟨b, off, rfl, hl⟩
      · have HQ2 : Hid (qs.map (·.1) = (ls.take (k + 1)).flatten) := by
          show _ = _
          rw [unhide HFS, List.append_nil]; exact unhide HQ
        dsimp only [List.length_nil] at hc
        clear hv
        go_wp2
        refine wp_loop_rounds 1 ?_
        rw [rounds_succ]
        go_wp2
        go_roundw
        case rel => exact ⟨k + 1, qs, by omega, by go_num, HOWN, HQ2, HBEL⟩
        case measure => simp [intOf]; omega
      · have HL := hide hl
        have hlb : l.length ≤ 1000000000 := by
          have h2 := take_flat_le ls (k + 1)
          rw [unhide HFS, List.length_append] at h2
          have h3 := unhide HMX
          omega
        generalize hlen : l.length = len at hc hcap hlb
        have HLEN := hide hlen
        have HQ0 : Hid (qs.map (·.1) = (ls.take k).flatten ++ l.take 0) := by
          show _ = _
          rw [List.take_zero, List.append_nil]; exact unhide HQ
        clear hl hv hlen HQ
        go_wp2
        obtain ⟨wo, hwo⟩ : ∃ wo, wo = wr := ⟨wr, rfl⟩
        subst hwo
        have HOWo := HOWN
        have HBEo := HBEL
        clear HOWN HBEL
        go_loopw [3, 16] (fun v i wr => ∃ (j : Nat) (qs : List Mq), j ≤ len ∧ i = .int .i64 j ∧ Hid (OwnMs wr w.heap.size v qs) ∧ Hid (qs.map (·.1) = (ls.take k).flatten ++ l.take j) ∧ Hid (Below w.heap.size w wr)) (fun _ i _ => len - (intOf i).toNat)
        case atStart => exact ⟨0, qs, Nat.zero_le _, rfl, HOWo, HQ0, HBEo⟩
        case round =>
          clear HOWo HQ0 hc
          obtain ⟨j, ps, hj, rfl, HOWN, HQ, HBEL⟩ := hrel
          by_cases hjt : j < len
          · have HLT : Hid (j < l.length) := by show _ < _; rw [unhide HLEN]; exact hjt
            obtain ⟨ao, c', ⟨h0, h1, h2, h3, h4, h5, h6⟩, hp⟩ := (unhide HL).below (unhide HBEL) j (unhide HLT)
            have HTS := hide (take_snoc l j (unhide HLT))
            generalize l.getD j mg0 = u at h0 h1 h2 h3 h4 h5 h6 hp HTS
            have HP := hide hp
            clear hp
            have hsz := (unhide HBEL).size
            have HQL : Hid (ps.length ≤ 1000000000) := by
              show _ ≤ _
              have h1 : ps.length = ((ls.take k).flatten ++ l.take j).length := by rw [← unhide HQ, List.length_map]
              have h2 := take_flat_le ls (k + 1)
              rw [unhide HFS, List.length_append] at h2
              rw [List.length_append, List.length_take] at h1
              have h3 := unhide HMX
              omega
            go_wp2_with (first
              | (go_at_call 39; refine (own_any u ao c' _ ((unhide HP).below ((Below.refl _ _).alloc (Nat.le_refl _) _))).mono ?_; rintro e w3 ⟨sv, rfl, HS, hb3⟩; obtain ⟨so, sc, rfl⟩ := owns_slice (unhide HS); have HO2 := hide ((unhide HOWN).below (bnx ((Below.refl _ _).alloc (Nat.le_refl _) _) hb3)); have hsz3 : wr.heap.size ≤ w3.heap.size := (by have := hb3.size; simp at this; omega); have HB3 : Hid (Below wr.heap.size wr w3) := bnx ((Below.refl _ _).alloc (Nat.le_refl _) _) hb3; clear hb3)
              | (at_builtin; refine wpList_append_own _ rfl _ _ 23 rfl w.heap.size 26 i0 _ 7 96 Tryz.underlying23 hi hz0 hz1 hz2 rfl (by decide) _ _ _ rfl ((unhide HO2).row.alloc _) ⟨w3.heap.size, 0, none⟩ 1 1 (mcs u (.slice so u.props.length sc)) rfl rfl (seven_cell _ _ _ _ _ _ _ _ _) (seven_one _ _ _ _) (by have := unhide HQL; unfold maxLen; omega) (by have := unhide HQL; omega) (by simp; omega) ?_)
              | go_in)
            intro v' w4 hown' hgrow _
            have HB4 : Hid (Below w.heap.size w w4) := ((bnx (unhide HBEL) (unhide HB3)).alloc (by omega) _).grown hgrow (by simp; omega) (fun k hk => ((unhide HO2).blk k hk).1)
            have HO4 := hide (own_one (unhide HO2) (unhide HS) (by simp; omega) (unhide HP).2 hgrow hown')
            have HF2 := hide (JI.nxt (s := .slice so u.props.length sc) (unhide HQ) (unhide HTS))
            clear hgrow hown'
            go_wp2
            go_roundw
            case rel => exact ⟨j + 1, _, by omega, by go_num, HO4, HF2, HB4⟩
            case measure => simp [intOf]; omega
          · obtain rfl : j = len := by omega
            have HQ2 : Hid (ps.map (·.1) = (ls.take (k + 1)).flatten) := by
              show _ = _
              rw [unhide HFS, unhide HQ, List.take_of_length_le (Nat.le_of_eq (unhide HLEN))]
            go_wp2
            exact ⟨⟨k + 1, ps, by omega, by go_num, HOWN, HQ2, HBEL⟩, by simp [intOf]; omega⟩
    · obtain rfl : k = n := by omega
      have HO1 : Hid (OwnMs wr w.heap.size u3 qs ∧ qs.map (·.1) = ls.flatten) := by
        refine ⟨unhide HOWN, ?_⟩
        rw [unhide HQ, List.take_of_length_le (by rw [← (unhide HR).1, unhide HN]; exact Nat.le_refl _)]
      go_wp2
      go_ret
      exact ⟨_, _, rfl, HO1, unhide HBEL⟩
end Go.Proofs.YtknbgnoahfeigaaGreatDoor.M
