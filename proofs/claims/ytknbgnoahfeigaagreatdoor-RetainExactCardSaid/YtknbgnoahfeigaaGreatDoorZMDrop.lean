/- Proved here: the contracts of retain.Drop and of the page's Drop. Helper contracts. -/
import Derived.Test.YtknbgnoahfeigaaGreatDoorZMChk
namespace Go.Proofs.YtknbgnoahfeigaaGreatDoor.M
open Go.RowKit
set_option maxRecDepth 100000

theorem box7 {w w2 : World} {t : TypeId} {m : Mg} {s : Value} (hb : Below (w.alloc (.cells #[.string m.topic, .string m.payload, .int .i64 m.qos, .bool m.ret, .string m.frm, .int .i64 m.untl, s] t)).heap.size (w.alloc (.cells #[.string m.topic, .string m.payload, .int .i64 m.qos, .bool m.ret, .string m.frm, .int .i64 m.untl, s] t)) w2) :
    w2.cell? ⟨w.heap.size, 0, none⟩ = some (.string m.topic) ∧ w2.cell? ⟨w.heap.size, 1, none⟩ = some (.string m.payload) ∧ w2.cell? ⟨w.heap.size, 2, none⟩ = some (.int .i64 m.qos) ∧ w2.cell? ⟨w.heap.size, 3, none⟩ = some (.bool m.ret) ∧ w2.cell? ⟨w.heap.size, 4, none⟩ = some (.string m.frm) ∧ w2.cell? ⟨w.heap.size, 5, none⟩ = some (.int .i64 m.untl) ∧ w2.cell? ⟨w.heap.size, 6, none⟩ = some s := by
  have hl : w.heap.size < (w.alloc (.cells #[.string m.topic, .string m.payload, .int .i64 m.qos, .bool m.ret, .string m.frm, .int .i64 m.untl, s] t)).heap.size := by simp
  exact ⟨(hb.cell hl).trans (by simp), (hb.cell hl).trans (by simp), (hb.cell hl).trans (by simp), (hb.cell hl).trans (by simp), (hb.cell hl).trans (by simp), (hb.cell hl).trans (by simp), (hb.cell hl).trans (by simp)⟩
/-- one message more, at the end of a row of one's own -/
theorem own_one {w2 w1 : World} {B B2 : Nat} {v v' : Value} {qs : List Mq} {u : Mg} {s : Value} {o : Obj} (h : OwnMs w2 B v qs) (hs : w2.ownsRow B2 83 4 s u.props.length (pcs u.props)) (hB : B ≤ B2) (hk : u.props.length ≤ 2932031007317) (hg : (w2.alloc o).grownBy w1 v.ownBlock) (ho : w1.ownsRow B 26 7 v' (qs.length + 1) (mrow qs ++ mcs u s)) : OwnMs w1 B v' (qs ++ [(u, s)]) :=
  OwnMs.app (h.below ((Below.refl _ _).alloc (Nat.le_refl _) _)) (fun q hq => by obtain rfl := List.mem_singleton.1 hq; exact ⟨owns_mono (hs.alloc _) hB, hk⟩) hg (by simpa [mrow] using ho)
theorem filt_snoc (l : List Mg) (p : Mg → Bool) (k : Nat) (h : k < l.length) : (l.take (k + 1)).filter p = (l.take k).filter p ++ (if p (l.getD k mg0) = true then [l.getD k mg0] else []) := by
  rw [take_snoc l k h, List.filter_append]
  congr 1
  by_cases hp : p (l.getD k mg0) = true
  · rw [if_pos hp, List.filter_cons_of_pos hp]; rfl
  · rw [if_neg hp, List.filter_cons_of_neg hp]; rfl
def DropPost (l : List Mg) (p : Mg → Bool) (w : World) (e : Ending) (w' : World) : Prop := ((mayL l ∧ ∃ v qs, e = .returned (.tuple #[v, .nilIface]) ∧ Hid (OwnMs w' w.heap.size v qs ∧ qs.map (·.1) = l.filter p)) ∨ (¬ mayL l ∧ ∃ x, e = .returned (.tuple #[.slice none 0 0, .iface 76 x]) ∧ Hid (Era w' (.iface 76 x) 1))) ∧ Below w.heap.size w w'
theorem FI.nxt {l : List Mg} {p : Mg → Bool} {k : Nat} {qs : List Mq} {u : Mg} {s : Value} (h : qs.map (·.1) = (l.take k).filter p ∧ qs.length ≤ k) (hf : (l.take (k + 1)).filter p = (l.take k).filter p ++ (if p u = true then [u] else [])) (hp : p u = true) : (qs ++ [(u, s)]).map (·.1) = (l.take (k + 1)).filter p ∧ (qs ++ [(u, s)]).length ≤ k + 1 := by
  rw [hf, if_pos hp, List.map_append, h.1, List.length_append]
  exact ⟨rfl, by simp; omega⟩
theorem FI.same {l : List Mg} {p : Mg → Bool} {k : Nat} {qs : List Mq} {u : Mg} (h : qs.map (·.1) = (l.take k).filter p ∧ qs.length ≤ k) (hf : (l.take (k + 1)).filter p = (l.take k).filter p ++ (if p u = true then [u] else [])) (hp : p u = false) : qs.map (·.1) = (l.take (k + 1)).filter p ∧ qs.length ≤ k + 1 := by
  rw [hf, hp, if_neg (by simp), List.append_nil, h.1]
  exact ⟨rfl, by omega⟩
set_option maxHeartbeats 8000000 in
theorem drop_core (b off cap : Nat) (l : List Mg) (now : Int) (len : Nat) (w : World) (hlen : l.length = len) (hcap : len ≤ cap ∧ cap ≤ maxLen) (hmx : len ≤ 1000000000) (ht : TopOk l) (hl : MgAt w b off l) :
    Calls Tryz.prog 15 #[.slice (some ⟨b, off, none⟩) len cap, .int .i64 now] w (DropPost l (liv now) w) := by
  obtain ⟨i0, hi, hz0, hz1, hz2⟩ := info_parts infoMsg
  have HCK : Hid (Calls Tryz.prog 28 #[.slice (some ⟨b, off, none⟩) len cap] w (CheckPost l w)) := check_any _ l w (by omega) ht ⟨_, _, by rw [hlen], by rw [hlen]; exact hcap, .inr ⟨b, off, rfl, hl⟩⟩
  have HL := hide hl
  have HLEN := hide hlen
  clear hl ht hlen hcap
  go_enter Tryz.func15, Tryz.ntmps15
  go_wp2_with fail
  refine (unhide HCK).mono ?_
  clear HCK
  rintro e w1 ⟨⟨hmay, rfl⟩ | ⟨hmay, x, rfl, hx⟩, hb1⟩
  · have HM := hide hmay
    have HB1 := hide hb1
    clear hmay hb1
    go_wp2
    go_loopw [7, 17] (fun v i wr => ∃ (k : Nat) (qs : List Mq), k ≤ len ∧ i = .int .i64 k ∧ Hid (OwnMs wr w.heap.size v qs) ∧ Hid (qs.map (·.1) = (l.take k).filter (liv now) ∧ qs.length ≤ k) ∧ Hid (Below w.heap.size w wr)) (fun _ i _ => len - (intOf i).toNat)
    case atStart => exact ⟨0, [], Nat.zero_le _, rfl, OwnMs.nil _ _, ⟨rfl, Nat.le_refl _⟩, unhide HB1⟩
    case round =>
      clear HB1
      obtain ⟨k, qs, hk, rfl, HOWN, HQ, HBEL⟩ := hrel
      by_cases hlt : k < len
      · have HLT : Hid (k < l.length) := by show _ < _; rw [unhide HLEN]; exact hlt
        obtain ⟨ao, c, ⟨h0, h1, h2, h3, h4, h5, h6⟩, hp⟩ := (unhide HL).below (unhide HBEL) k (unhide HLT)
        have HFS := hide (filt_snoc l (liv now) k (unhide HLT))
        generalize l.getD k mg0 = u at h0 h1 h2 h3 h4 h5 h6 hp HFS
        have HP := hide hp
        clear hp
        have hsz := (unhide HBEL).size
        have HQL := hide (unhide HQ).2
        go_wp2_with fail
        refine (lives_any u ao _ c now _).mono ?_
        rintro e w2 ⟨rfl, hb2⟩
        obtain ⟨y0, y1, y2, y3, y4, y5, y6⟩ := box7 hb2
        have HB2 : Hid (Below wr.heap.size wr w2) := bnx ((Below.refl _ _).alloc (Nat.le_refl _) _) hb2
        clear hb2 h0 h1 h2 h3 h4 h5 h6
        have hsz2 := (unhide HB2).size
        cases hv : liv now u
        · have HF2 := hide (FI.same (unhide HQ) (unhide HFS) hv)
          have HO2 := hide ((unhide HOWN).below (unhide HB2))
          go_wp2
          go_roundw
          case rel => exact ⟨k + 1, qs, by omega, by go_num, HO2, HF2, bnx (unhide HBEL) (unhide HB2)⟩
          case measure => simp [intOf]; omega
        · go_wp2_with (first
            | (go_at_call 39; refine (own_any u ao c _ ((unhide HP).below (unhide HB2))).mono ?_; rintro e w3 ⟨sv, rfl, HS, hb3⟩; obtain ⟨so, sc, rfl⟩ := owns_slice (unhide HS); have HO2 := hide ((unhide HOWN).below (bnx (unhide HB2) hb3)); have hsz3 := hb3.size; have HB3 := hide hb3; clear hb3)
            | (at_builtin; refine wpList_append_own _ rfl _ _ 23 rfl w.heap.size 26 i0 _ 7 96 Tryz.underlying23 hi hz0 hz1 hz2 rfl (by decide) _ _ _ rfl ((unhide HO2).row.alloc _) ⟨w3.heap.size, 0, none⟩ 1 1 (mcs u (.slice so u.props.length sc)) rfl rfl (seven_cell _ _ _ _ _ _ _ _ _) (seven_one _ _ _ _) (by have := unhide HQL; unfold maxLen; omega) (by have := unhide HQL; omega) (by simp; omega) ?_)
            | go_in)
          intro v' w4 hown' hgrow _
          have HB4 : Hid (Below w.heap.size w w4) := ((bnx (bnx (unhide HBEL) (unhide HB2)) (unhide HB3)).alloc (by omega) _).grown hgrow (by simp; omega) (fun k hk => ((unhide HO2).blk k hk).1)
          have HO4 := hide (own_one (unhide HO2) (unhide HS) (by omega) (unhide HP).2 hgrow hown')
          have HF2 := hide (FI.nxt (s := .slice so u.props.length sc) (unhide HQ) (unhide HFS) hv)
          clear hgrow hown'
          go_wp2
          go_roundw
          case rel => exact ⟨k + 1, _, by omega, by go_num, HO4, HF2, HB4⟩
          case measure => simp [intOf]; omega
      · obtain rfl : k = len := by omega
        have HO1 : Hid (OwnMs wr w.heap.size u7 qs ∧ qs.map (·.1) = l.filter (liv now)) := by
          refine ⟨unhide HOWN, ?_⟩
          rw [(unhide HQ).1, List.take_of_length_le (Nat.le_of_eq (unhide HLEN))]
        go_wp2
        go_returns
        exact ⟨.inl ⟨unhide HM, _, _, rfl, HO1⟩, unhide HBEL⟩
  · have HM := hide hmay
    clear hmay
    go_wp2
    go_returns
    exact ⟨.inr ⟨unhide HM, x, rfl, hx⟩, hb1⟩
set_option maxHeartbeats 2000000 in
theorem drop_nil (ao : Option Addr) (cap : Nat) (now : Int) (w : World) (hcap : cap ≤ maxLen) : Calls Tryz.prog 15 #[.slice ao 0 cap, .int .i64 now] w (DropPost [] (liv now) w) := by
  have HCK : Hid (Calls Tryz.prog 28 #[.slice ao 0 cap] w (CheckPost [] w)) := check_any _ [] w (by simp) (fun i hi => by simp at hi) ⟨_, _, rfl, ⟨Nat.zero_le _, hcap⟩, .inl rfl⟩
  go_enter Tryz.func15, Tryz.ntmps15
  go_wp2_with fail
  refine (unhide HCK).mono ?_
  clear HCK
  rintro e w1 ⟨⟨hmay, rfl⟩ | ⟨hmay, x, rfl, hx⟩, hb1⟩
  · have HM := hide hmay
    have HB1 := hide hb1
    clear hmay hb1
    go_wp2
    refine wp_loop_rounds 1 ?_
    rw [rounds_succ]
    go_wp2
    go_returns
    exact ⟨.inl ⟨unhide HM, _, [], rfl, OwnMs.nil _ _, rfl⟩, unhide HB1⟩
  · exact absurd (fun j hj => absurd hj (Nat.not_lt_zero j)) hmay
theorem drop_any (v : Value) (l : List Mg) (now : Int) (w : World) (hmx : l.length ≤ 1000000000) (ht : TopOk l) (h : Mgs w v l) : Calls Tryz.prog 15 #[v, .int .i64 now] w (DropPost l (liv now) w) := by
  obtain ⟨ao, cap, rfl, hcap, rfl | ⟨b, off, rfl, hc⟩⟩ := h
  · exact drop_nil ao cap now w hcap.2
  · exact drop_core b off cap l now _ w rfl hcap hmx ht hc
set_option maxHeartbeats 8000000 in
theorem rdrop_core (b off cap : Nat) (l : List Mg) (now : Int) (len : Nat) (w : World) (hlen : l.length = len) (hmx : len ≤ 1000000000) (hl : MgAt w b off l) :
    Calls Tryz.prog 8 #[.slice (some ⟨b, off, none⟩) len cap, .int .i64 now] w fun e w' => ∃ v qs, e = .returned v ∧ Hid (OwnMs w' w.heap.size v qs ∧ qs.map (·.1) = l.filter (liv now)) ∧ Below w.heap.size w w' := by
  obtain ⟨i0, hi, hz0, hz1, hz2⟩ := info_parts infoMsg
  have HL := hide hl
  have HLEN := hide hlen
  clear hl hlen
  go_enter Tryz.func8, Tryz.ntmps8
  go_wp2
  go_loopw [5, 6] (fun v i wr => ∃ (k : Nat) (qs : List Mq), k ≤ len ∧ i = .int .i64 k ∧ Hid (OwnMs wr w.heap.size v qs) ∧ Hid (qs.map (·.1) = (l.take k).filter (liv now) ∧ qs.length ≤ k) ∧ Hid (Below w.heap.size w wr)) (fun _ i _ => len - (intOf i).toNat)
  case atStart => exact ⟨0, [], Nat.zero_le _, rfl, OwnMs.nil _ _, ⟨rfl, Nat.le_refl _⟩, Below.refl _ _⟩
  case round =>
    obtain ⟨k, qs, hk, rfl, HOWN, HQ, HBEL⟩ := hrel
    by_cases hlt : k < len
    · have HLT : Hid (k < l.length) := by show _ < _; rw [unhide HLEN]; exact hlt
      obtain ⟨ao, c, hc, hp⟩ := (unhide HL).below (unhide HBEL) k (unhide HLT)
      have HFS := hide (filt_snoc l (liv now) k (unhide HLT))
      generalize l.getD k mg0 = u at hc hp HFS
      have HC := hide hc
      obtain ⟨h0, h1, h2, h3, h4, h5, h6⟩ := hc
      have HP := hide hp
      clear hp
      have hsz := (unhide HBEL).size
      have HQL := hide (unhide HQ).2
      go_wp2_with fail
      refine (rlive_any u ao _ c now _).mono ?_
      rintro e w2 ⟨rfl, hb2⟩
      clear h0 h1 h2 h3 h4 h5 h6
      obtain ⟨h0, h1, h2, h3, h4, h5, h6⟩ := (unhide HC).below hb2
      have HB2 := hide hb2
      have hsz2 := hb2.size
      clear hb2
      cases hv : liv now u
      · have HF2 := hide (FI.same (unhide HQ) (unhide HFS) hv)
        have HO2 := hide ((unhide HOWN).below (unhide HB2))
        go_wp2
        go_roundw
        case rel => exact ⟨k + 1, qs, by omega, by go_num, HO2, HF2, bnx (unhide HBEL) (unhide HB2)⟩
        case measure => simp [intOf]; omega
      · go_wp2_with (first
          | (go_at_call 13; refine (copym_any u ao c _ ((unhide HP).below (unhide HB2))).mono ?_; rintro e w3 ⟨sv, rfl, HS, hb3⟩; obtain ⟨so, sc, rfl⟩ := owns_slice (unhide HS); have HO2 := hide ((unhide HOWN).below (bnx (unhide HB2) hb3)); have hsz3 := hb3.size; have HB3 := hide hb3; clear hb3)
          | (at_builtin; refine wpList_append_own _ rfl _ _ 23 rfl w.heap.size 26 i0 _ 7 96 Tryz.underlying23 hi hz0 hz1 hz2 rfl (by decide) _ _ _ rfl ((unhide HO2).row.alloc _) ⟨w3.heap.size, 0, none⟩ 1 1 (mcs u (.slice so u.props.length sc)) rfl rfl (seven_cell _ _ _ _ _ _ _ _ _) (seven_one _ _ _ _) (by have := unhide HQL; unfold maxLen; omega) (by have := unhide HQL; omega) (by simp; omega) ?_)
          | go_in)
        intro v' w4 hown' hgrow _
        have HB4 : Hid (Below w.heap.size w w4) := ((bnx (bnx (unhide HBEL) (unhide HB2)) (unhide HB3)).alloc (by omega) _).grown hgrow (by simp; omega) (fun k hk => ((unhide HO2).blk k hk).1)
        have HO4 := hide (own_one (unhide HO2) (unhide HS) (by omega) (unhide HP).2 hgrow hown')
        have HF2 := hide (FI.nxt (s := .slice so u.props.length sc) (unhide HQ) (unhide HFS) hv)
        clear hgrow hown'
        go_wp2
        go_roundw
        case rel => exact ⟨k + 1, _, by omega, by go_num, HO4, HF2, HB4⟩
        case measure => simp [intOf]; omega
    · obtain rfl : k = len := by omega
      have HO1 : Hid (OwnMs wr w.heap.size u5 qs ∧ qs.map (·.1) = l.filter (liv now)) := by
        refine ⟨unhide HOWN, ?_⟩
        rw [(unhide HQ).1, List.take_of_length_le (Nat.le_of_eq (unhide HLEN))]
      go_wp2
      go_ret
      exact ⟨_, _, rfl, HO1, unhide HBEL⟩
theorem rdrop_any (v : Value) (l : List Mg) (now : Int) (w : World) (hmx : l.length ≤ 1000000000) (h : Mgs w v l) : Calls Tryz.prog 8 #[v, .int .i64 now] w fun e w' => ∃ v qs, e = .returned v ∧ Hid (OwnMs w' w.heap.size v qs ∧ qs.map (·.1) = l.filter (liv now)) ∧ Below w.heap.size w w' := by
  obtain ⟨ao, cap, rfl, hcap, rfl | ⟨b, off, rfl, hc⟩⟩ := h
  · go_enter Tryz.func8, Tryz.ntmps8
    go_wp2
    refine wp_loop_rounds 1 ?_
    rw [rounds_succ]
    go_wp2
    go_ret
    exact ⟨_, [], rfl, ⟨OwnMs.nil _ _, rfl⟩, Below.refl _ _⟩
  · exact rdrop_core b off cap l now _ w rfl hmx hc
end Go.Proofs.YtknbgnoahfeigaaGreatDoor.M
