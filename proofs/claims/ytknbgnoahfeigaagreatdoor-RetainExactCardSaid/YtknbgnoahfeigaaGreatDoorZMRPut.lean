/- Proved here: the contract of the page's Put. Helper contract. -/
import Derived.Test.YtknbgnoahfeigaaGreatDoorZMPut
import Derived.Laws.AppendOwnNone
namespace Go.Proofs.YtknbgnoahfeigaaGreatDoor.M
open Go.RowKit
set_option maxRecDepth 100000

theorem eq_cmp (a b : ByteArray) : (a.toList == b.toList) = decide (cmpB a b = 0) := by
  rw [Bool.eq_iff_iff, beq_iff_eq, decide_eq_true_eq, cmpB_zero]
  constructor
  · exact toList_inj
  · rintro rfl; rfl
theorem OwnMs.one {w : World} {B : Nat} {v : Value} {qs : List Mq} (h : OwnMs w B v qs) : ∀ u ∈ mrow qs, u.oneCell' = true := by
  intro u hu
  unfold mrow at hu
  rw [List.mem_flatMap] at hu
  obtain ⟨q, hq, hu⟩ := hu
  obtain ⟨ao, c, hs⟩ := owns_slice (h.prp q hq).1
  rw [hs] at hu
  exact seven_one _ _ _ _ u hu
theorem mrow_length (qs : List Mq) : (mrow qs).length = qs.length * 7 := by
  induction qs with
  | nil => rfl
  | cons q l ih => unfold mrow at *; rw [List.flatMap_cons, List.length_append, ih]; simp; omega
/-- a copy of what is not empty -/
theorem copyms_some (v : Value) (l : List Mg) (w : World) (h : Mgs w v l) (h1 : 1 ≤ l.length) (hmx : l.length ≤ 1000000000) : Calls Tryz.prog 11 #[v] w fun e w' => ∃ g c qs, e = .returned (.slice (some ⟨g, 0, none⟩) qs.length c) ∧ Hid (OwnMs w' w.heap.size (.slice (some ⟨g, 0, none⟩) qs.length c) qs ∧ qs.map (·.1) = l) ∧ Below w.heap.size w w' := by
  refine (copyms_any v l w h hmx).mono ?_
  rintro e w' ⟨v', qs, rfl, HO, hb⟩
  have hl : qs.length = l.length := by rw [← (unhide HO).2, List.length_map]
  rcases (unhide HO).1.row.2 with ⟨_, h0⟩ | ⟨g, cap, cur, hv, _⟩
  · omega
  · subst hv
    exact ⟨g, cap, qs, rfl, HO, hb⟩
def RPutPost (l : List Mg) (m : Mg) (w : World) (e : Ending) (w' : World) : Prop :=
  ((nm m = false ∧ e = .returned (.tuple #[.slice none 0 0, .int .i64 5])) ∨
   (nm m = true ∧ ∃ k, Hid (At l m.topic k) ∧
     ((putN l m k = 0 ∧ ∃ v qs, e = .returned (.tuple #[v, .int .i64 0]) ∧ Hid (OwnMs w' w.heap.size v qs ∧ qs.map (·.1) = putL l m k)) ∨
      (putN l m k = 9 ∧ e = .returned (.tuple #[.slice none 0 0, .int .i64 9]))))) ∧ Below w.heap.size w w'
set_option maxHeartbeats 16000000 in
theorem rput_core (b off cap : Nat) (l : List Mg) (m : Mg) (mo : Option Addr) (mc : Nat) (len : Nat) (w : World) (hlen : l.length = len) (hcap : len ≤ cap ∧ cap ≤ maxLen) (hmx : len ≤ 1000000) (hm : mayL l) (hl : MgAt w b off l) (hp : Pok w mo mc m.props) (hts : m.topic.size ≤ 140737488351232) :
    Calls Tryz.prog 7 #[.slice (some ⟨b, off, none⟩) len cap, mval m (.slice mo m.props.length mc)] w (RPutPost l m w) := by
  obtain ⟨i0, hi, hz0, hz1, hz2⟩ := info_parts infoMsg
  have HMG : Hid (∀ W, Below w.heap.size w W → Mgs W (.slice (some ⟨b, off, none⟩) len cap) l) := fun W hW => ⟨_, _, by rw [hlen], by rw [hlen]; exact hcap, .inr ⟨b, off, rfl, hl.below hW⟩⟩
  have HL := hide hl
  have HP := hide hp
  have HLEN := hide hlen
  have HTS := hide hts
  have HMO := hide (may_mono hm m.topic)
  clear hl hlen hp hts hm
  obtain ⟨hcl, hcm⟩ := hcap
  go_enter Tryz.func7, Tryz.ntmps7
  cases hn : nm m
  · go_wp2_with (go_at_call 21; refine (rname_all m.topic _ (unhide HTS)).mono ?_; rintro e w2 ⟨rfl, hb2⟩; rw [show isName m.topic.data.toList = _ from hn])
    go_returns
    exact ⟨.inl ⟨hn, rfl⟩, bnx ((Below.refl _ _).alloc (Nat.le_refl _) _) hb2⟩
  · go_wp2_with (go_at_call 21; refine (rname_all m.topic _ (unhide HTS)).mono ?_; rintro e w2 ⟨rfl, hb2⟩; rw [show isName m.topic.data.toList = _ from hn])
    have HB2 : Hid (Below w.heap.size w w2) := bnx ((Below.refl _ _).alloc (Nat.le_refl _) _) hb2
    have HBX2 := hide hb2
    clear hb2
    go_loopw [6] (fun i wr => ∃ k : Nat, k ≤ len ∧ i = .int .i64 k ∧ Hid (∀ j, j < k → cmpB (l.getD j mg0).topic m.topic < 0) ∧ Hid (Below w2.heap.size w2 wr)) (fun i _ => len - (intOf i).toNat)
    case atStart => exact ⟨0, Nat.zero_le _, rfl, fun j hj => absurd hj (Nat.not_lt_zero j), Below.refl _ _⟩
    case round =>
      obtain ⟨k, hk, rfl, HALL, HBEL⟩ := hrel
      by_cases hlt : k < len
      · obtain ⟨ao, c, ⟨x0, _⟩, _⟩ := (unhide HL).below (bnx (unhide HB2) (unhide HBEL)) k (by rw [unhide HLEN]; exact hlt)
        have HU := hide (rfl : (l.getD k mg0) = (l.getD k mg0))
        generalize hu : l.getD k mg0 = u at x0
        have HUE := hide hu
        clear hu HU
        have z0 := (box7 (bnx (unhide HBX2) (unhide HBEL))).1
        have HKT : Hid (∀ W : World, Below wr.heap.size wr W → W.cell? ⟨b, off + k * 7, none⟩ = some (.string u.topic) ∧ W.cell? ⟨w.heap.size, 0, none⟩ = some (.string m.topic)) := fun W hW => ⟨(hW.cell (cell_lt x0)).trans x0, (hW.cell (cell_lt z0)).trans z0⟩
        clear x0 z0
        have hbl := bless_ba u.topic m.topic
        by_cases hcmp : cmpB u.topic m.topic < 0
        · rw [decide_eq_true hcmp] at hbl
          have HA2 : Hid (∀ j, j < k + 1 → cmpB (l.getD j mg0).topic m.topic < 0) := fun j hj => by
            rcases Nat.lt_succ_iff_lt_or_eq.1 hj with h2 | h2
            · exact (unhide HALL) j h2
            · rw [h2, unhide HUE]; exact hcmp
          go_wp2_with fail
          refine wp_region_noPanic ?_
          refine wp_region_held_drew (S := (fun w' => w'.cell? ⟨b, off + k * 7, none⟩ = some (.string u.topic) ∧ w'.cell? ⟨w.heap.size, 0, none⟩ = some (.string m.topic))) (by kernel_rfl) ((unhide HKT) _ (below_drewN (Below.refl _ _) 1)) (fun hHeld => ?_)
          refine rtk 0 (h := ?_)
          refine rtk 1 (h := ?_)
          refine rtk 2 (h := ?_)
          refine rtk 3 (h := ?_)
          refine rtk 4 (h := ?_)
          refine rtk 5 (h := ?_)
          refine rtk 6 (h := ?_)
          refine rtk 7 (h := ?_)
          refine rtk 8 (h := ?_)
          refine rtk 9 (h := ?_)
          refine rtk 10 (h := ?_)
          refine rtk 11 (h := ?_)
          refine rtk 12 (h := ?_)
          refine rtk 13 (h := ?_)
          refine wpAnyH_done (by kernel_rfl) ?_ _
          refine NoPanic.normal ?_
          go_wp2
          go_roundw
          case rel => exact ⟨k + 1, by omega, by go_num, HA2, below_drewN (unhide HBEL) 1⟩
          case measure => simp [intOf] <;> omega
        · rw [decide_eq_false hcmp] at hbl
          have HAT : Hid (At l m.topic k) := ⟨by rw [unhide HLEN]; exact hk, unhide HALL, fun j h1 h2 => Int.not_lt.1 fun h => hcmp (by have := (unhide HMO) k j h1 h2 h; rw [unhide HUE] at this; exact this)⟩
          have hec := eq_cmp u.topic m.topic
          by_cases hce : cmpB u.topic m.topic = 0
          · rw [decide_eq_true hce] at hec
            have hth : thr l m.topic k = true := by unfold thr; rw [unhide HLEN, decide_eq_true hlt, unhide HUE, decide_eq_true hce]; rfl
            go_wp2_with fail
            refine wp_region_noPanic ?_
            refine wp_region_held_drew (S := (fun w' => w'.cell? ⟨b, off + k * 7, none⟩ = some (.string u.topic) ∧ w'.cell? ⟨w.heap.size, 0, none⟩ = some (.string m.topic))) (by kernel_rfl) ((unhide HKT) _ (below_drewN (Below.refl _ _) 1)) (fun hHeld => ?_)
            refine rtk 0 (h := ?_)
            refine rtk 1 (h := ?_)
            refine rtk 2 (h := ?_)
            refine rtk 3 (h := ?_)
            refine rtk 4 (h := ?_)
            refine rtk 5 (h := ?_)
            refine rtk 6 (h := ?_)
            refine rtk 7 (h := ?_)
            refine rtk 8 (h := ?_)
            refine rtk 9 (h := ?_)
            refine rtk 10 (h := ?_)
            refine rtk 11 (h := ?_)
            refine rtk 12 (h := ?_)
            refine rtk 13 (h := ?_)
            refine wpAnyH_done (by kernel_rfl) ?_ _
            refine NoPanic.normal ?_
            go_wp2_with fail
            refine wp_region_noPanic ?_
            refine wp_region_held_drew (S := (fun w' => w'.cell? ⟨b, off + k * 7, none⟩ = some (.string u.topic) ∧ w'.cell? ⟨w.heap.size, 0, none⟩ = some (.string m.topic))) (by kernel_rfl) ((unhide HKT) _ (below_drewN (below_drewN (Below.refl _ _) 1) 1)) (fun hHeld => ?_)
            refine rtk 0 (h := ?_)
            refine rtk 1 (h := ?_)
            refine rtk 2 (h := ?_)
            refine rtk 3 (h := ?_)
            refine rtk 4 (h := ?_)
            refine rtk 5 (h := ?_)
            refine rtk 6 (h := ?_)
            refine rtk 7 (h := ?_)
            refine rtk 8 (h := ?_)
            refine rtk 9 (h := ?_)
            refine rtk 10 (h := ?_)
            refine rtk 11 (h := ?_)
            refine rtk 12 (h := ?_)
            refine rtk 13 (h := ?_)
            refine rcl 14 (h := fun K hK => ?_)
            go_simp
            refine hK.out _ _ ((unhide HKT) _ (below_drewN (below_drewN (Below.refl _ _) 1) 1)) (fun hHeld => ?_)
            clear hK K
            refine wpAnyH_done (by kernel_rfl) ?_ _
            refine NoPanic.normal ?_
            have HD : Hid (putL l m k = l.take k ++ wrt m ++ l.drop (k + 1)) := by show _ = _; unfold putL; rw [if_pos hth, List.append_assoc]
            have HBD : Hid (Below wr.heap.size wr wr.drew.drew) := below_drewN (below_drewN (Below.refl _ _) 1) 1
            generalize wr.drew.drew = wd at HBD ⊢
            have HBW : Hid (Below w.heap.size w wd) := bnx (bnx (unhide HB2) (unhide HBEL)) (unhide HBD)
            have HBXD := hide (bnx (bnx (unhide HBX2) (unhide HBEL)) (unhide HBD))
            obtain ⟨y0, y1, y2, y3, y4, y5, y6⟩ := box7 (unhide HBXD)
            have HM0 := hide ((unhide HMG) _ (unhide HBW))
            have HM1 := hide ((unhide HM0).take k (by omega))
            have hszd := (unhide HBW).size
            by_cases hk1 : k + 1 = len
            · have HX : Hid (l.drop (k + 1) = []) := List.drop_of_length_le (by rw [unhide HLEN]; omega)
              subst hk1
              by_cases hck : cap = k + 1
              · subst hck
                cases hpe : m.payload.toList.isEmpty
                · have HWR : Hid (wrt m = [m]) := by show _ = _; unfold wrt; rw [hpe]; rfl
                  have HN0 : Hid (putN l m k = 0) := by show _ = _; unfold putN; rw [if_pos hn, if_pos (.inl hth)]
                  go_wp2_with fail
                  refine (copyms_any _ _ _ (unhide HM1) (by rw [List.length_take]; have := unhide HLEN; omega)).mono ?_
                  rintro e w5 ⟨vo, qs, rfl, HO5, hb5⟩
                  clear y0 y1 y2 y3 y4 y5 y6
                  obtain ⟨y0, y1, y2, y3, y4, y5, y6⟩ := box7 (bnx (unhide HBXD) hb5)
                  have HB5 : Hid (Below w.heap.size w w5) := bnx (unhide HBW) hb5
                  have hsz5 := (unhide HB5).size
                  have HBY := hide hb5
                  have HQL : Hid (qs.length ≤ 1000000) := by show _ ≤ _; have h := congrArg List.length (unhide HO5).2; rw [List.length_map, List.length_take] at h; have := unhide HLEN; omega
                  have HO2 := hide ((unhide HO5).1.mono (B' := w.heap.size) (by omega))
                  have HQM := hide (unhide HO5).2
                  have HOB := hide (unhide HO5).1
                  clear hb5 HO5
                  have hszy := (unhide HBY).size
                  go_wp2_with fail
                  refine (copym_any m mo mc _ ((unhide HP).below (unhide HB5))).mono ?_
                  rintro e w6 ⟨sv, rfl, HS, hb6⟩
                  obtain ⟨so, sc, rfl⟩ := owns_slice (unhide HS)
                  have HO3 := hide ((unhide HO2).below hb6)
                  have HOG : Hid (∀ g, vo.ownBlock = some g → wd.heap.size ≤ g) := fun g hg => ((unhide HOB).blk g hg).1
                  have HB6 := hide hb6
                  have hsz6 := hb6.size
                  clear hb6
                  go_wp2_with (first | (at_builtin; refine wpList_append_own _ rfl _ _ 23 rfl w.heap.size 26 i0 _ 7 96 Tryz.underlying23 hi hz0 hz1 hz2 rfl (by decide) _ _ _ rfl ((unhide HO3).row.alloc _) ⟨w6.heap.size, 0, none⟩ 1 1 (mcs m (.slice so m.props.length sc)) rfl rfl (seven_cell _ _ _ _ _ _ _ _ _) (seven_one _ _ _ _) (by have := unhide HQL; unfold maxLen; omega) (by have := unhide HQL; omega) (by simp; omega) ?_) | go_in)
                  intro v' w7 hown' hgrow _
                  have HB7 : Hid (Below w.heap.size w w7) := ((bnx (unhide HB5) (unhide HB6)).alloc (by omega) _).grown hgrow (by simp; omega) (fun k hk => ((unhide HO3).blk k hk).1)
                  have HB57 : Hid (Below wd.heap.size wd w7) := ((bnx (unhide HBY) (unhide HB6)).alloc (by omega) _).grown hgrow (by simp; omega) (fun k hk => (unhide HOG) k hk)
                  have HO7' := hide (own_one (unhide HO3) (unhide HS) (by omega) (unhide HP).2 hgrow hown')
                  have HQ7' : Hid ((qs ++ [(m, Value.slice so m.props.length sc)]).map (·.1) = l.take k ++ wrt m ∧ (qs ++ [(m, Value.slice so m.props.length sc)]).length ≤ 1000001) := ⟨by rw [List.map_append, unhide HQM, unhide HWR]; rfl, by have := unhide HQL; simp; omega⟩
                  generalize qs ++ [(m, Value.slice so m.props.length sc)] = qs7 at HO7' HQ7'
                  have HO7 := HO7'
                  have HQ7 := hide (unhide HQ7').1
                  have hl7 := (unhide HQ7').2
                  have hsz7 := (unhide HB7).size
                  clear hgrow hown' HO7' HQ7'
                  go_wp2_with fail
                  refine (copyms_nil _ _ _).mono ?_
                  rintro e w8 ⟨rfl, hw8⟩
                  obtain rfl := hw8
                  go_wp2_with (first | (at_builtin; refine wpList_append_own_none rfl _ _ 23 rfl w.heap.size 26 i0 7 Tryz.underlying23 hi _ _ _ rfl (unhide HO7).row rfl ?_) | go_in)
                  go_wp2
                  go_returns
                  exact ⟨.inr ⟨hn, k, HAT, .inl ⟨unhide HN0, _, _, rfl, unhide HO7, by rw [unhide HD, unhide HQ7, unhide HX, List.append_nil]⟩⟩, unhide HB7⟩
                · have HWR : Hid (wrt m = []) := by show _ = _; unfold wrt; rw [hpe]; rfl
                  have HN0 : Hid (putN l m k = 0) := by show _ = _; unfold putN; rw [if_pos hn, if_pos (.inl hth)]
                  go_wp2_with fail
                  refine (copyms_any _ _ _ (unhide HM1) (by rw [List.length_take]; have := unhide HLEN; omega)).mono ?_
                  rintro e w5 ⟨vo, qs, rfl, HO5, hb5⟩
                  clear y0 y1 y2 y3 y4 y5 y6
                  obtain ⟨y0, y1, y2, y3, y4, y5, y6⟩ := box7 (bnx (unhide HBXD) hb5)
                  have HB5 : Hid (Below w.heap.size w w5) := bnx (unhide HBW) hb5
                  have hsz5 := (unhide HB5).size
                  have HBY := hide hb5
                  have HQL : Hid (qs.length ≤ 1000000) := by show _ ≤ _; have h := congrArg List.length (unhide HO5).2; rw [List.length_map, List.length_take] at h; have := unhide HLEN; omega
                  have HO2 := hide ((unhide HO5).1.mono (B' := w.heap.size) (by omega))
                  have HQM := hide (unhide HO5).2
                  have HOB := hide (unhide HO5).1
                  clear hb5 HO5
                  have hszy := (unhide HBY).size
                  go_wp2_with fail
                  have HO7 := HO2
                  have HB7 := HB5
                  have HB57 := hide (unhide HBY)
                  have HQ7 : Hid (qs.map (·.1) = l.take k ++ wrt m) := by show _ = _; rw [unhide HQM, unhide HWR, List.append_nil]
                  have hl7 := unhide HQL
                  have hsz7 := (unhide HB7).size
                  refine (copyms_nil _ _ _).mono ?_
                  rintro e w8 ⟨rfl, hw8⟩
                  obtain rfl := hw8
                  go_wp2_with (first | (at_builtin; refine wpList_append_own_none rfl _ _ 23 rfl w.heap.size 26 i0 7 Tryz.underlying23 hi _ _ _ rfl (unhide HO7).row rfl ?_) | go_in)
                  go_wp2
                  go_returns
                  exact ⟨.inr ⟨hn, k, HAT, .inl ⟨unhide HN0, _, _, rfl, unhide HO7, by rw [unhide HD, unhide HQ7, unhide HX, List.append_nil]⟩⟩, unhide HB7⟩
              · skip
                cases hpe : m.payload.toList.isEmpty
                · have HWR : Hid (wrt m = [m]) := by show _ = _; unfold wrt; rw [hpe]; rfl
                  have HN0 : Hid (putN l m k = 0) := by show _ = _; unfold putN; rw [if_pos hn, if_pos (.inl hth)]
                  go_wp2_with fail
                  refine (copyms_any _ _ _ (unhide HM1) (by rw [List.length_take]; have := unhide HLEN; omega)).mono ?_
                  rintro e w5 ⟨vo, qs, rfl, HO5, hb5⟩
                  clear y0 y1 y2 y3 y4 y5 y6
                  obtain ⟨y0, y1, y2, y3, y4, y5, y6⟩ := box7 (bnx (unhide HBXD) hb5)
                  have HB5 : Hid (Below w.heap.size w w5) := bnx (unhide HBW) hb5
                  have hsz5 := (unhide HB5).size
                  have HBY := hide hb5
                  have HQL : Hid (qs.length ≤ 1000000) := by show _ ≤ _; have h := congrArg List.length (unhide HO5).2; rw [List.length_map, List.length_take] at h; have := unhide HLEN; omega
                  have HO2 := hide ((unhide HO5).1.mono (B' := w.heap.size) (by omega))
                  have HQM := hide (unhide HO5).2
                  have HOB := hide (unhide HO5).1
                  clear hb5 HO5
                  have hszy := (unhide HBY).size
                  go_wp2_with fail
                  refine (copym_any m mo mc _ ((unhide HP).below (unhide HB5))).mono ?_
                  rintro e w6 ⟨sv, rfl, HS, hb6⟩
                  obtain ⟨so, sc, rfl⟩ := owns_slice (unhide HS)
                  have HO3 := hide ((unhide HO2).below hb6)
                  have HOG : Hid (∀ g, vo.ownBlock = some g → wd.heap.size ≤ g) := fun g hg => ((unhide HOB).blk g hg).1
                  have HB6 := hide hb6
                  have hsz6 := hb6.size
                  clear hb6
                  go_wp2_with (first | (at_builtin; refine wpList_append_own _ rfl _ _ 23 rfl w.heap.size 26 i0 _ 7 96 Tryz.underlying23 hi hz0 hz1 hz2 rfl (by decide) _ _ _ rfl ((unhide HO3).row.alloc _) ⟨w6.heap.size, 0, none⟩ 1 1 (mcs m (.slice so m.props.length sc)) rfl rfl (seven_cell _ _ _ _ _ _ _ _ _) (seven_one _ _ _ _) (by have := unhide HQL; unfold maxLen; omega) (by have := unhide HQL; omega) (by simp; omega) ?_) | go_in)
                  intro v' w7 hown' hgrow _
                  have HB7 : Hid (Below w.heap.size w w7) := ((bnx (unhide HB5) (unhide HB6)).alloc (by omega) _).grown hgrow (by simp; omega) (fun k hk => ((unhide HO3).blk k hk).1)
                  have HB57 : Hid (Below wd.heap.size wd w7) := ((bnx (unhide HBY) (unhide HB6)).alloc (by omega) _).grown hgrow (by simp; omega) (fun k hk => (unhide HOG) k hk)
                  have HO7' := hide (own_one (unhide HO3) (unhide HS) (by omega) (unhide HP).2 hgrow hown')
                  have HQ7' : Hid ((qs ++ [(m, Value.slice so m.props.length sc)]).map (·.1) = l.take k ++ wrt m ∧ (qs ++ [(m, Value.slice so m.props.length sc)]).length ≤ 1000001) := ⟨by rw [List.map_append, unhide HQM, unhide HWR]; rfl, by have := unhide HQL; simp; omega⟩
                  generalize qs ++ [(m, Value.slice so m.props.length sc)] = qs7 at HO7' HQ7'
                  have HO7 := HO7'
                  have HQ7 := hide (unhide HQ7').1
                  have hl7 := (unhide HQ7').2
                  have hsz7 := (unhide HB7).size
                  clear hgrow hown' HO7' HQ7'
                  go_wp2_with fail
                  refine (copyms_nil _ _ _).mono ?_
                  rintro e w8 ⟨rfl, hw8⟩
                  obtain rfl := hw8
                  go_wp2_with (first | (at_builtin; refine wpList_append_own_none rfl _ _ 23 rfl w.heap.size 26 i0 7 Tryz.underlying23 hi _ _ _ rfl (unhide HO7).row rfl ?_) | go_in)
                  go_wp2
                  go_returns
                  exact ⟨.inr ⟨hn, k, HAT, .inl ⟨unhide HN0, _, _, rfl, unhide HO7, by rw [unhide HD, unhide HQ7, unhide HX, List.append_nil]⟩⟩, unhide HB7⟩
                · have HWR : Hid (wrt m = []) := by show _ = _; unfold wrt; rw [hpe]; rfl
                  have HN0 : Hid (putN l m k = 0) := by show _ = _; unfold putN; rw [if_pos hn, if_pos (.inl hth)]
                  go_wp2_with fail
                  refine (copyms_any _ _ _ (unhide HM1) (by rw [List.length_take]; have := unhide HLEN; omega)).mono ?_
                  rintro e w5 ⟨vo, qs, rfl, HO5, hb5⟩
                  clear y0 y1 y2 y3 y4 y5 y6
                  obtain ⟨y0, y1, y2, y3, y4, y5, y6⟩ := box7 (bnx (unhide HBXD) hb5)
                  have HB5 : Hid (Below w.heap.size w w5) := bnx (unhide HBW) hb5
                  have hsz5 := (unhide HB5).size
                  have HBY := hide hb5
                  have HQL : Hid (qs.length ≤ 1000000) := by show _ ≤ _; have h := congrArg List.length (unhide HO5).2; rw [List.length_map, List.length_take] at h; have := unhide HLEN; omega
                  have HO2 := hide ((unhide HO5).1.mono (B' := w.heap.size) (by omega))
                  have HQM := hide (unhide HO5).2
                  have HOB := hide (unhide HO5).1
                  clear hb5 HO5
                  have hszy := (unhide HBY).size
                  go_wp2_with fail
                  have HO7 := HO2
                  have HB7 := HB5
                  have HB57 := hide (unhide HBY)
                  have HQ7 : Hid (qs.map (·.1) = l.take k ++ wrt m) := by show _ = _; rw [unhide HQM, unhide HWR, List.append_nil]
                  have hl7 := unhide HQL
                  have hsz7 := (unhide HB7).size
                  refine (copyms_nil _ _ _).mono ?_
                  rintro e w8 ⟨rfl, hw8⟩
                  obtain rfl := hw8
                  go_wp2_with (first | (at_builtin; refine wpList_append_own_none rfl _ _ 23 rfl w.heap.size 26 i0 7 Tryz.underlying23 hi _ _ _ rfl (unhide HO7).row rfl ?_) | go_in)
                  go_wp2
                  go_returns
                  exact ⟨.inr ⟨hn, k, HAT, .inl ⟨unhide HN0, _, _, rfl, unhide HO7, by rw [unhide HD, unhide HQ7, unhide HX, List.append_nil]⟩⟩, unhide HB7⟩
            · have HM3 := hide ((unhide HM0).drop (k + 1) (by omega))
              rw [if_neg (by omega)] at HM3
              cases hpe : m.payload.toList.isEmpty
              · have HWR : Hid (wrt m = [m]) := by show _ = _; unfold wrt; rw [hpe]; rfl
                have HN0 : Hid (putN l m k = 0) := by show _ = _; unfold putN; rw [if_pos hn, if_pos (.inl hth)]
                go_wp2_with fail
                refine (copyms_any _ _ _ (unhide HM1) (by rw [List.length_take]; have := unhide HLEN; omega)).mono ?_
                rintro e w5 ⟨vo, qs, rfl, HO5, hb5⟩
                clear y0 y1 y2 y3 y4 y5 y6
                obtain ⟨y0, y1, y2, y3, y4, y5, y6⟩ := box7 (bnx (unhide HBXD) hb5)
                have HB5 : Hid (Below w.heap.size w w5) := bnx (unhide HBW) hb5
                have hsz5 := (unhide HB5).size
                have HBY := hide hb5
                have HQL : Hid (qs.length ≤ 1000000) := by show _ ≤ _; have h := congrArg List.length (unhide HO5).2; rw [List.length_map, List.length_take] at h; have := unhide HLEN; omega
                have HO2 := hide ((unhide HO5).1.mono (B' := w.heap.size) (by omega))
                have HQM := hide (unhide HO5).2
                have HOB := hide (unhide HO5).1
                clear hb5 HO5
                have hszy := (unhide HBY).size
                go_wp2_with fail
                refine (copym_any m mo mc _ ((unhide HP).below (unhide HB5))).mono ?_
                rintro e w6 ⟨sv, rfl, HS, hb6⟩
                obtain ⟨so, sc, rfl⟩ := owns_slice (unhide HS)
                have HO3 := hide ((unhide HO2).below hb6)
                have HOG : Hid (∀ g, vo.ownBlock = some g → wd.heap.size ≤ g) := fun g hg => ((unhide HOB).blk g hg).1
                have HB6 := hide hb6
                have hsz6 := hb6.size
                clear hb6
                go_wp2_with (first | (at_builtin; refine wpList_append_own _ rfl _ _ 23 rfl w.heap.size 26 i0 _ 7 96 Tryz.underlying23 hi hz0 hz1 hz2 rfl (by decide) _ _ _ rfl ((unhide HO3).row.alloc _) ⟨w6.heap.size, 0, none⟩ 1 1 (mcs m (.slice so m.props.length sc)) rfl rfl (seven_cell _ _ _ _ _ _ _ _ _) (seven_one _ _ _ _) (by have := unhide HQL; unfold maxLen; omega) (by have := unhide HQL; omega) (by simp; omega) ?_) | go_in)
                intro v' w7 hown' hgrow _
                have HB7 : Hid (Below w.heap.size w w7) := ((bnx (unhide HB5) (unhide HB6)).alloc (by omega) _).grown hgrow (by simp; omega) (fun k hk => ((unhide HO3).blk k hk).1)
                have HB57 : Hid (Below wd.heap.size wd w7) := ((bnx (unhide HBY) (unhide HB6)).alloc (by omega) _).grown hgrow (by simp; omega) (fun k hk => (unhide HOG) k hk)
                have HO7' := hide (own_one (unhide HO3) (unhide HS) (by omega) (unhide HP).2 hgrow hown')
                have HQ7' : Hid ((qs ++ [(m, Value.slice so m.props.length sc)]).map (·.1) = l.take k ++ wrt m ∧ (qs ++ [(m, Value.slice so m.props.length sc)]).length ≤ 1000001) := ⟨by rw [List.map_append, unhide HQM, unhide HWR]; rfl, by have := unhide HQL; simp; omega⟩
                generalize qs ++ [(m, Value.slice so m.props.length sc)] = qs7 at HO7' HQ7'
                have HO7 := HO7'
                have HQ7 := hide (unhide HQ7').1
                have hl7 := (unhide HQ7').2
                have hsz7 := (unhide HB7).size
                clear hgrow hown' HO7' HQ7'
                go_wp2_with fail
                refine (copyms_some _ _ _ ((unhide HM3).below (unhide HB57)) (by have := unhide HLEN; rw [List.length_drop]; omega) (by have := unhide HLEN; rw [List.length_drop]; omega)).mono ?_
                rintro e w8 ⟨g8, c8, ps, rfl, HO8, hb8⟩
                have HO9 := hide ((unhide HO7).below hb8)
                have hsz8 := hb8.size
                have HB8 := hide (bnx (unhide HB7) hb8)
                clear hb8
                have HPL : Hid (ps.length ≤ 1000000) := by show _ ≤ _; have h := congrArg List.length (unhide HO8).2; rw [List.length_map, List.length_drop] at h; have := unhide HLEN; omega
                go_wp2_with (first | (at_builtin; refine wpList_append_own _ rfl _ _ 23 rfl w.heap.size 26 i0 _ 7 96 Tryz.underlying23 hi hz0 hz1 hz2 rfl (by decide) _ _ _ rfl (unhide HO9).row ⟨g8, 0, none⟩ ps.length c8 (mrow ps) rfl (mrow_length ps) (fun j u hj => (unhide HO8).1.row.cells (g := g8) rfl j u hj) (unhide HO8).1.one (by have := unhide HPL; unfold maxLen; omega) (by have := unhide HPL; omega) (by omega) ?_) | go_in)
                intro v9 w9 hown9 hgrow9 _
                have HB9 : Hid (Below w.heap.size w w9) := (unhide HB8).grown hgrow9 (by omega) (fun k hk => ((unhide HO9).blk k hk).1)
                have HOF := hide (OwnMs.app (unhide HO9) (fun q hq => ⟨owns_mono ((unhide HO8).1.prp q hq).1 (by omega), ((unhide HO8).1.prp q hq).2⟩) hgrow9 hown9)
                clear hgrow9 hown9
                go_wp2
                go_returns
                exact ⟨.inr ⟨hn, k, HAT, .inl ⟨unhide HN0, _, _, rfl, unhide HOF, by rw [unhide HD, List.map_append, unhide HQ7, (unhide HO8).2, List.append_assoc]⟩⟩, unhide HB9⟩
              · have HWR : Hid (wrt m = []) := by show _ = _; unfold wrt; rw [hpe]; rfl
                have HN0 : Hid (putN l m k = 0) := by show _ = _; unfold putN; rw [if_pos hn, if_pos (.inl hth)]
                go_wp2_with fail
                refine (copyms_any _ _ _ (unhide HM1) (by rw [List.length_take]; have := unhide HLEN; omega)).mono ?_
                rintro e w5 ⟨vo, qs, rfl, HO5, hb5⟩
                clear y0 y1 y2 y3 y4 y5 y6
                obtain ⟨y0, y1, y2, y3, y4, y5, y6⟩ := box7 (bnx (unhide HBXD) hb5)
                have HB5 : Hid (Below w.heap.size w w5) := bnx (unhide HBW) hb5
                have hsz5 := (unhide HB5).size
                have HBY := hide hb5
                have HQL : Hid (qs.length ≤ 1000000) := by show _ ≤ _; have h := congrArg List.length (unhide HO5).2; rw [List.length_map, List.length_take] at h; have := unhide HLEN; omega
                have HO2 := hide ((unhide HO5).1.mono (B' := w.heap.size) (by omega))
                have HQM := hide (unhide HO5).2
                have HOB := hide (unhide HO5).1
                clear hb5 HO5
                have hszy := (unhide HBY).size
                go_wp2_with fail
                have HO7 := HO2
                have HB7 := HB5
                have HB57 := hide (unhide HBY)
                have HQ7 : Hid (qs.map (·.1) = l.take k ++ wrt m) := by show _ = _; rw [unhide HQM, unhide HWR, List.append_nil]
                have hl7 := unhide HQL
                have hsz7 := (unhide HB7).size
                refine (copyms_some _ _ _ ((unhide HM3).below (unhide HB57)) (by have := unhide HLEN; rw [List.length_drop]; omega) (by have := unhide HLEN; rw [List.length_drop]; omega)).mono ?_
                rintro e w8 ⟨g8, c8, ps, rfl, HO8, hb8⟩
                have HO9 := hide ((unhide HO7).below hb8)
                have hsz8 := hb8.size
                have HB8 := hide (bnx (unhide HB7) hb8)
                clear hb8
                have HPL : Hid (ps.length ≤ 1000000) := by show _ ≤ _; have h := congrArg List.length (unhide HO8).2; rw [List.length_map, List.length_drop] at h; have := unhide HLEN; omega
                go_wp2_with (first | (at_builtin; refine wpList_append_own _ rfl _ _ 23 rfl w.heap.size 26 i0 _ 7 96 Tryz.underlying23 hi hz0 hz1 hz2 rfl (by decide) _ _ _ rfl (unhide HO9).row ⟨g8, 0, none⟩ ps.length c8 (mrow ps) rfl (mrow_length ps) (fun j u hj => (unhide HO8).1.row.cells (g := g8) rfl j u hj) (unhide HO8).1.one (by have := unhide HPL; unfold maxLen; omega) (by have := unhide HPL; omega) (by omega) ?_) | go_in)
                intro v9 w9 hown9 hgrow9 _
                have HB9 : Hid (Below w.heap.size w w9) := (unhide HB8).grown hgrow9 (by omega) (fun k hk => ((unhide HO9).blk k hk).1)
                have HOF := hide (OwnMs.app (unhide HO9) (fun q hq => ⟨owns_mono ((unhide HO8).1.prp q hq).1 (by omega), ((unhide HO8).1.prp q hq).2⟩) hgrow9 hown9)
                clear hgrow9 hown9
                go_wp2
                go_returns
                exact ⟨.inr ⟨hn, k, HAT, .inl ⟨unhide HN0, _, _, rfl, unhide HOF, by rw [unhide HD, List.map_append, unhide HQ7, (unhide HO8).2, List.append_assoc]⟩⟩, unhide HB9⟩
          · rw [decide_eq_false hce] at hec
            have hth : thr l m.topic k = false := by unfold thr; rw [unhide HLEN, decide_eq_true hlt, unhide HUE, decide_eq_false hce]; rfl
            have HD : Hid (putL l m k = l.take k ++ wrt m ++ l.drop k) := by show _ = _; unfold putL; rw [if_neg (by rw [hth]; simp), List.append_assoc]
            go_wp2_with fail
            refine wp_region_noPanic ?_
            refine wp_region_held_drew (S := (fun w' => w'.cell? ⟨b, off + k * 7, none⟩ = some (.string u.topic) ∧ w'.cell? ⟨w.heap.size, 0, none⟩ = some (.string m.topic))) (by kernel_rfl) ((unhide HKT) _ (below_drewN (Below.refl _ _) 1)) (fun hHeld => ?_)
            refine rtk 0 (h := ?_)
            refine rtk 1 (h := ?_)
            refine rtk 2 (h := ?_)
            refine rtk 3 (h := ?_)
            refine rtk 4 (h := ?_)
            refine rtk 5 (h := ?_)
            refine rtk 6 (h := ?_)
            refine rtk 7 (h := ?_)
            refine rtk 8 (h := ?_)
            refine rtk 9 (h := ?_)
            refine rtk 10 (h := ?_)
            refine rtk 11 (h := ?_)
            refine rtk 12 (h := ?_)
            refine rtk 13 (h := ?_)
            refine wpAnyH_done (by kernel_rfl) ?_ _
            refine NoPanic.normal ?_
            go_wp2_with fail
            refine wp_region_noPanic ?_
            refine wp_region_held_drew (S := (fun w' => w'.cell? ⟨b, off + k * 7, none⟩ = some (.string u.topic) ∧ w'.cell? ⟨w.heap.size, 0, none⟩ = some (.string m.topic))) (by kernel_rfl) ((unhide HKT) _ (below_drewN (below_drewN (Below.refl _ _) 1) 1)) (fun hHeld => ?_)
            refine rtk 0 (h := ?_)
            refine rtk 1 (h := ?_)
            refine rtk 2 (h := ?_)
            refine rtk 3 (h := ?_)
            refine rtk 4 (h := ?_)
            refine rtk 5 (h := ?_)
            refine rtk 6 (h := ?_)
            refine rtk 7 (h := ?_)
            refine rtk 8 (h := ?_)
            refine rtk 9 (h := ?_)
            refine rtk 10 (h := ?_)
            refine rtk 11 (h := ?_)
            refine rtk 12 (h := ?_)
            refine rtk 13 (h := ?_)
            refine rcl 14 (h := fun K hK => ?_)
            go_simp
            refine hK.out _ _ ((unhide HKT) _ (below_drewN (below_drewN (Below.refl _ _) 1) 1)) (fun hHeld => ?_)
            clear hK K
            refine wpAnyH_done (by kernel_rfl) ?_ _
            refine NoPanic.normal ?_
            have HBD : Hid (Below wr.heap.size wr wr.drew.drew) := below_drewN (below_drewN (Below.refl _ _) 1) 1
            generalize wr.drew.drew = wd at HBD ⊢
            have HBW : Hid (Below w.heap.size w wd) := bnx (bnx (unhide HB2) (unhide HBEL)) (unhide HBD)
            have HBXD := hide (bnx (bnx (unhide HBX2) (unhide HBEL)) (unhide HBD))
            obtain ⟨y0, y1, y2, y3, y4, y5, y6⟩ := box7 (unhide HBXD)
            have HM0 := hide ((unhide HMG) _ (unhide HBW))
            have HM1 := hide ((unhide HM0).take k (by omega))
            have hszd := (unhide HBW).size
            have HM3 := hide ((unhide HM0).drop k hk)
            rw [if_neg (by omega)] at HM3
            cases hpe : m.payload.toList.isEmpty
            · by_cases h64 : len < 64
              · have HWR : Hid (wrt m = [m]) := by show _ = _; unfold wrt; rw [hpe]; rfl
                have HN0 : Hid (putN l m k = 0) := by show _ = _; unfold putN; rw [if_pos hn, if_pos (.inr (.inr (by rw [unhide HLEN]; exact h64)))]
                go_wp2_with fail
                refine (copyms_any _ _ _ (unhide HM1) (by rw [List.length_take]; have := unhide HLEN; omega)).mono ?_
                rintro e w5 ⟨vo, qs, rfl, HO5, hb5⟩
                clear y0 y1 y2 y3 y4 y5 y6
                obtain ⟨y0, y1, y2, y3, y4, y5, y6⟩ := box7 (bnx (unhide HBXD) hb5)
                have HB5 : Hid (Below w.heap.size w w5) := bnx (unhide HBW) hb5
                have hsz5 := (unhide HB5).size
                have HBY := hide hb5
                have HQL : Hid (qs.length ≤ 1000000) := by show _ ≤ _; have h := congrArg List.length (unhide HO5).2; rw [List.length_map, List.length_take] at h; have := unhide HLEN; omega
                have HO2 := hide ((unhide HO5).1.mono (B' := w.heap.size) (by omega))
                have HQM := hide (unhide HO5).2
                have HOB := hide (unhide HO5).1
                clear hb5 HO5
                have hszy := (unhide HBY).size
                go_wp2_with fail
                refine (copym_any m mo mc _ ((unhide HP).below (unhide HB5))).mono ?_
                rintro e w6 ⟨sv, rfl, HS, hb6⟩
                obtain ⟨so, sc, rfl⟩ := owns_slice (unhide HS)
                have HO3 := hide ((unhide HO2).below hb6)
                have HOG : Hid (∀ g, vo.ownBlock = some g → wd.heap.size ≤ g) := fun g hg => ((unhide HOB).blk g hg).1
                have HB6 := hide hb6
                have hsz6 := hb6.size
                clear hb6
                go_wp2_with (first | (at_builtin; refine wpList_append_own _ rfl _ _ 23 rfl w.heap.size 26 i0 _ 7 96 Tryz.underlying23 hi hz0 hz1 hz2 rfl (by decide) _ _ _ rfl ((unhide HO3).row.alloc _) ⟨w6.heap.size, 0, none⟩ 1 1 (mcs m (.slice so m.props.length sc)) rfl rfl (seven_cell _ _ _ _ _ _ _ _ _) (seven_one _ _ _ _) (by have := unhide HQL; unfold maxLen; omega) (by have := unhide HQL; omega) (by simp; omega) ?_) | go_in)
                intro v' w7 hown' hgrow _
                have HB7 : Hid (Below w.heap.size w w7) := ((bnx (unhide HB5) (unhide HB6)).alloc (by omega) _).grown hgrow (by simp; omega) (fun k hk => ((unhide HO3).blk k hk).1)
                have HB57 : Hid (Below wd.heap.size wd w7) := ((bnx (unhide HBY) (unhide HB6)).alloc (by omega) _).grown hgrow (by simp; omega) (fun k hk => (unhide HOG) k hk)
                have HO7' := hide (own_one (unhide HO3) (unhide HS) (by omega) (unhide HP).2 hgrow hown')
                have HQ7' : Hid ((qs ++ [(m, Value.slice so m.props.length sc)]).map (·.1) = l.take k ++ wrt m ∧ (qs ++ [(m, Value.slice so m.props.length sc)]).length ≤ 1000001) := ⟨by rw [List.map_append, unhide HQM, unhide HWR]; rfl, by have := unhide HQL; simp; omega⟩
                generalize qs ++ [(m, Value.slice so m.props.length sc)] = qs7 at HO7' HQ7'
                have HO7 := HO7'
                have HQ7 := hide (unhide HQ7').1
                have hl7 := (unhide HQ7').2
                have hsz7 := (unhide HB7).size
                clear hgrow hown' HO7' HQ7'
                go_wp2_with fail
                refine (copyms_some _ _ _ ((unhide HM3).below (unhide HB57)) (by have := unhide HLEN; rw [List.length_drop]; omega) (by have := unhide HLEN; rw [List.length_drop]; omega)).mono ?_
                rintro e w8 ⟨g8, c8, ps, rfl, HO8, hb8⟩
                have HO9 := hide ((unhide HO7).below hb8)
                have hsz8 := hb8.size
                have HB8 := hide (bnx (unhide HB7) hb8)
                clear hb8
                have HPL : Hid (ps.length ≤ 1000000) := by show _ ≤ _; have h := congrArg List.length (unhide HO8).2; rw [List.length_map, List.length_drop] at h; have := unhide HLEN; omega
                go_wp2_with (first | (at_builtin; refine wpList_append_own _ rfl _ _ 23 rfl w.heap.size 26 i0 _ 7 96 Tryz.underlying23 hi hz0 hz1 hz2 rfl (by decide) _ _ _ rfl (unhide HO9).row ⟨g8, 0, none⟩ ps.length c8 (mrow ps) rfl (mrow_length ps) (fun j u hj => (unhide HO8).1.row.cells (g := g8) rfl j u hj) (unhide HO8).1.one (by have := unhide HPL; unfold maxLen; omega) (by have := unhide HPL; omega) (by omega) ?_) | go_in)
                intro v9 w9 hown9 hgrow9 _
                have HB9 : Hid (Below w.heap.size w w9) := (unhide HB8).grown hgrow9 (by omega) (fun k hk => ((unhide HO9).blk k hk).1)
                have HOF := hide (OwnMs.app (unhide HO9) (fun q hq => ⟨owns_mono ((unhide HO8).1.prp q hq).1 (by omega), ((unhide HO8).1.prp q hq).2⟩) hgrow9 hown9)
                clear hgrow9 hown9
                go_wp2
                go_returns
                exact ⟨.inr ⟨hn, k, HAT, .inl ⟨unhide HN0, _, _, rfl, unhide HOF, by rw [unhide HD, List.map_append, unhide HQ7, (unhide HO8).2, List.append_assoc]⟩⟩, unhide HB9⟩
              · have HN9 : Hid (putN l m k = 9) := by show _ = _; unfold putN; rw [if_pos hn, if_neg (by rw [hth, hpe, unhide HLEN]; simp; omega)]
                go_wp2_with fail
                refine (copyms_any _ _ _ (unhide HM1) (by rw [List.length_take]; have := unhide HLEN; omega)).mono ?_
                rintro e w5 ⟨vo, qs, rfl, HO5, hb5⟩
                clear y0 y1 y2 y3 y4 y5 y6
                obtain ⟨y0, y1, y2, y3, y4, y5, y6⟩ := box7 (bnx (unhide HBXD) hb5)
                have HB5 : Hid (Below w.heap.size w w5) := bnx (unhide HBW) hb5
                have hsz5 := (unhide HB5).size
                have HBY := hide hb5
                have HQL : Hid (qs.length ≤ 1000000) := by show _ ≤ _; have h := congrArg List.length (unhide HO5).2; rw [List.length_map, List.length_take] at h; have := unhide HLEN; omega
                have HO2 := hide ((unhide HO5).1.mono (B' := w.heap.size) (by omega))
                have HQM := hide (unhide HO5).2
                have HOB := hide (unhide HO5).1
                clear hb5 HO5
                have hszy := (unhide HBY).size
                go_wp2
                go_returns
                exact ⟨.inr ⟨hn, k, HAT, .inr ⟨unhide HN9, rfl⟩⟩, unhide HB5⟩
            · have HWR : Hid (wrt m = []) := by show _ = _; unfold wrt; rw [hpe]; rfl
              have HN0 : Hid (putN l m k = 0) := by show _ = _; unfold putN; rw [if_pos hn, if_pos (.inr (.inl hpe))]
              go_wp2_with fail
              refine (copyms_any _ _ _ (unhide HM1) (by rw [List.length_take]; have := unhide HLEN; omega)).mono ?_
              rintro e w5 ⟨vo, qs, rfl, HO5, hb5⟩
              clear y0 y1 y2 y3 y4 y5 y6
              obtain ⟨y0, y1, y2, y3, y4, y5, y6⟩ := box7 (bnx (unhide HBXD) hb5)
              have HB5 : Hid (Below w.heap.size w w5) := bnx (unhide HBW) hb5
              have hsz5 := (unhide HB5).size
              have HBY := hide hb5
              have HQL : Hid (qs.length ≤ 1000000) := by show _ ≤ _; have h := congrArg List.length (unhide HO5).2; rw [List.length_map, List.length_take] at h; have := unhide HLEN; omega
              have HO2 := hide ((unhide HO5).1.mono (B' := w.heap.size) (by omega))
              have HQM := hide (unhide HO5).2
              have HOB := hide (unhide HO5).1
              clear hb5 HO5
              have hszy := (unhide HBY).size
              go_wp2_with fail
              have HO7 := HO2
              have HB7 := HB5
              have HB57 := hide (unhide HBY)
              have HQ7 : Hid (qs.map (·.1) = l.take k ++ wrt m) := by show _ = _; rw [unhide HQM, unhide HWR, List.append_nil]
              have hl7 := unhide HQL
              have hsz7 := (unhide HB7).size
              refine (copyms_some _ _ _ ((unhide HM3).below (unhide HB57)) (by have := unhide HLEN; rw [List.length_drop]; omega) (by have := unhide HLEN; rw [List.length_drop]; omega)).mono ?_
              rintro e w8 ⟨g8, c8, ps, rfl, HO8, hb8⟩
              have HO9 := hide ((unhide HO7).below hb8)
              have hsz8 := hb8.size
              have HB8 := hide (bnx (unhide HB7) hb8)
              clear hb8
              have HPL : Hid (ps.length ≤ 1000000) := by show _ ≤ _; have h := congrArg List.length (unhide HO8).2; rw [List.length_map, List.length_drop] at h; have := unhide HLEN; omega
              go_wp2_with (first | (at_builtin; refine wpList_append_own _ rfl _ _ 23 rfl w.heap.size 26 i0 _ 7 96 Tryz.underlying23 hi hz0 hz1 hz2 rfl (by decide) _ _ _ rfl (unhide HO9).row ⟨g8, 0, none⟩ ps.length c8 (mrow ps) rfl (mrow_length ps) (fun j u hj => (unhide HO8).1.row.cells (g := g8) rfl j u hj) (unhide HO8).1.one (by have := unhide HPL; unfold maxLen; omega) (by have := unhide HPL; omega) (by omega) ?_) | go_in)
              intro v9 w9 hown9 hgrow9 _
              have HB9 : Hid (Below w.heap.size w w9) := (unhide HB8).grown hgrow9 (by omega) (fun k hk => ((unhide HO9).blk k hk).1)
              have HOF := hide (OwnMs.app (unhide HO9) (fun q hq => ⟨owns_mono ((unhide HO8).1.prp q hq).1 (by omega), ((unhide HO8).1.prp q hq).2⟩) hgrow9 hown9)
              clear hgrow9 hown9
              go_wp2
              go_returns
              exact ⟨.inr ⟨hn, k, HAT, .inl ⟨unhide HN0, _, _, rfl, unhide HOF, by rw [unhide HD, List.map_append, unhide HQ7, (unhide HO8).2, List.append_assoc]⟩⟩, unhide HB9⟩
      · obtain rfl : k = len := by omega
        have HAT : Hid (At l m.topic k) := ⟨by rw [unhide HLEN]; exact hk, unhide HALL, fun j h1 h2 => absurd h2 (by rw [unhide HLEN]; omega)⟩
        have hth : thr l m.topic k = false := by unfold thr; rw [unhide HLEN, decide_eq_false (by omega)]; rfl
        have HD : Hid (putL l m k = l.take k ++ wrt m ++ l.drop k) := by show _ = _; unfold putL; rw [if_neg (by rw [hth]; simp), List.append_assoc]
        have HX : Hid (l.drop k = []) := List.drop_of_length_le (by rw [unhide HLEN]; exact Nat.le_refl _)
        go_wp2_with fail
        refine wp_region_noPanic ?_
        refine wp_region_held_drew (S := (fun _ => True)) (by kernel_rfl) trivial (fun hHeld => ?_)
        refine rtk 0 (h := ?_)
        refine rtk 1 (h := ?_)
        refine rtk 2 (h := ?_)
        refine rtk 3 (h := ?_)
        refine rtk 4 (h := ?_)
        refine rsk 5 (h := ?_)
        refine rsk 6 (h := ?_)
        refine rsk 7 (h := ?_)
        refine rsk 8 (h := ?_)
        refine rsk 9 (h := ?_)
        refine rsk 10 (h := ?_)
        refine rsk 11 (h := ?_)
        refine rsk 12 (h := ?_)
        refine rtk 13 (h := ?_)
        refine wpAnyH_done (by kernel_rfl) ?_ _
        refine NoPanic.normal ?_
        go_wp2_with fail
        refine wp_region_noPanic ?_
        refine wp_region_held_drew (S := (fun _ => True)) (by kernel_rfl) trivial (fun hHeld => ?_)
        refine rtk 0 (h := ?_)
        refine rtk 1 (h := ?_)
        refine rtk 2 (h := ?_)
        refine rtk 3 (h := ?_)
        refine rtk 4 (h := ?_)
        refine rsk 5 (h := ?_)
        refine rsk 6 (h := ?_)
        refine rsk 7 (h := ?_)
        refine rsk 8 (h := ?_)
        refine rsk 9 (h := ?_)
        refine rsk 10 (h := ?_)
        refine rsk 11 (h := ?_)
        refine rsk 12 (h := ?_)
        refine rtk 13 (h := ?_)
        refine rcl 14 (h := fun K hK => ?_)
        go_simp
        refine hK.out _ _ trivial (fun hHeld => ?_)
        clear hK K
        refine wpAnyH_done (by kernel_rfl) ?_ _
        refine NoPanic.normal ?_
        have HBD : Hid (Below wr.heap.size wr wr.drew.drew) := below_drewN (below_drewN (Below.refl _ _) 1) 1
        generalize wr.drew.drew = wd at HBD ⊢
        have HBW : Hid (Below w.heap.size w wd) := bnx (bnx (unhide HB2) (unhide HBEL)) (unhide HBD)
        have HBXD := hide (bnx (bnx (unhide HBX2) (unhide HBEL)) (unhide HBD))
        obtain ⟨y0, y1, y2, y3, y4, y5, y6⟩ := box7 (unhide HBXD)
        have HM0 := hide ((unhide HMG) _ (unhide HBW))
        have HM1 := hide ((unhide HM0).take k (by omega))
        have hszd := (unhide HBW).size
        by_cases hck : cap = k
        · obtain rfl : k = cap := hck.symm
          cases hpe : m.payload.toList.isEmpty
          · by_cases h64 : k < 64
            · have HWR : Hid (wrt m = [m]) := by show _ = _; unfold wrt; rw [hpe]; rfl
              have HN0 : Hid (putN l m k = 0) := by show _ = _; unfold putN; rw [if_pos hn, if_pos (.inr (.inr (by rw [unhide HLEN]; exact h64)))]
              go_wp2_with fail
              refine (copyms_any _ _ _ (unhide HM1) (by rw [List.length_take]; have := unhide HLEN; omega)).mono ?_
              rintro e w5 ⟨vo, qs, rfl, HO5, hb5⟩
              clear y0 y1 y2 y3 y4 y5 y6
              obtain ⟨y0, y1, y2, y3, y4, y5, y6⟩ := box7 (bnx (unhide HBXD) hb5)
              have HB5 : Hid (Below w.heap.size w w5) := bnx (unhide HBW) hb5
              have hsz5 := (unhide HB5).size
              have HBY := hide hb5
              have HQL : Hid (qs.length ≤ 1000000) := by show _ ≤ _; have h := congrArg List.length (unhide HO5).2; rw [List.length_map, List.length_take] at h; have := unhide HLEN; omega
              have HO2 := hide ((unhide HO5).1.mono (B' := w.heap.size) (by omega))
              have HQM := hide (unhide HO5).2
              have HOB := hide (unhide HO5).1
              clear hb5 HO5
              have hszy := (unhide HBY).size
              go_wp2_with fail
              refine (copym_any m mo mc _ ((unhide HP).below (unhide HB5))).mono ?_
              rintro e w6 ⟨sv, rfl, HS, hb6⟩
              obtain ⟨so, sc, rfl⟩ := owns_slice (unhide HS)
              have HO3 := hide ((unhide HO2).below hb6)
              have HOG : Hid (∀ g, vo.ownBlock = some g → wd.heap.size ≤ g) := fun g hg => ((unhide HOB).blk g hg).1
              have HB6 := hide hb6
              have hsz6 := hb6.size
              clear hb6
              go_wp2_with (first | (at_builtin; refine wpList_append_own _ rfl _ _ 23 rfl w.heap.size 26 i0 _ 7 96 Tryz.underlying23 hi hz0 hz1 hz2 rfl (by decide) _ _ _ rfl ((unhide HO3).row.alloc _) ⟨w6.heap.size, 0, none⟩ 1 1 (mcs m (.slice so m.props.length sc)) rfl rfl (seven_cell _ _ _ _ _ _ _ _ _) (seven_one _ _ _ _) (by have := unhide HQL; unfold maxLen; omega) (by have := unhide HQL; omega) (by simp; omega) ?_) | go_in)
              intro v' w7 hown' hgrow _
              have HB7 : Hid (Below w.heap.size w w7) := ((bnx (unhide HB5) (unhide HB6)).alloc (by omega) _).grown hgrow (by simp; omega) (fun k hk => ((unhide HO3).blk k hk).1)
              have HB57 : Hid (Below wd.heap.size wd w7) := ((bnx (unhide HBY) (unhide HB6)).alloc (by omega) _).grown hgrow (by simp; omega) (fun k hk => (unhide HOG) k hk)
              have HO7' := hide (own_one (unhide HO3) (unhide HS) (by omega) (unhide HP).2 hgrow hown')
              have HQ7' : Hid ((qs ++ [(m, Value.slice so m.props.length sc)]).map (·.1) = l.take k ++ wrt m ∧ (qs ++ [(m, Value.slice so m.props.length sc)]).length ≤ 1000001) := ⟨by rw [List.map_append, unhide HQM, unhide HWR]; rfl, by have := unhide HQL; simp; omega⟩
              generalize qs ++ [(m, Value.slice so m.props.length sc)] = qs7 at HO7' HQ7'
              have HO7 := HO7'
              have HQ7 := hide (unhide HQ7').1
              have hl7 := (unhide HQ7').2
              have hsz7 := (unhide HB7).size
              clear hgrow hown' HO7' HQ7'
              go_wp2_with fail
              refine (copyms_nil _ _ _).mono ?_
              rintro e w8 ⟨rfl, hw8⟩
              obtain rfl := hw8
              go_wp2_with (first | (at_builtin; refine wpList_append_own_none rfl _ _ 23 rfl w.heap.size 26 i0 7 Tryz.underlying23 hi _ _ _ rfl (unhide HO7).row rfl ?_) | go_in)
              go_wp2
              go_returns
              exact ⟨.inr ⟨hn, k, HAT, .inl ⟨unhide HN0, _, _, rfl, unhide HO7, by rw [unhide HD, unhide HQ7, unhide HX, List.append_nil]⟩⟩, unhide HB7⟩
            · have HN9 : Hid (putN l m k = 9) := by show _ = _; unfold putN; rw [if_pos hn, if_neg (by rw [hth, hpe, unhide HLEN]; simp; omega)]
              go_wp2_with fail
              refine (copyms_any _ _ _ (unhide HM1) (by rw [List.length_take]; have := unhide HLEN; omega)).mono ?_
              rintro e w5 ⟨vo, qs, rfl, HO5, hb5⟩
              clear y0 y1 y2 y3 y4 y5 y6
              obtain ⟨y0, y1, y2, y3, y4, y5, y6⟩ := box7 (bnx (unhide HBXD) hb5)
              have HB5 : Hid (Below w.heap.size w w5) := bnx (unhide HBW) hb5
              have hsz5 := (unhide HB5).size
              have HBY := hide hb5
              have HQL : Hid (qs.length ≤ 1000000) := by show _ ≤ _; have h := congrArg List.length (unhide HO5).2; rw [List.length_map, List.length_take] at h; have := unhide HLEN; omega
              have HO2 := hide ((unhide HO5).1.mono (B' := w.heap.size) (by omega))
              have HQM := hide (unhide HO5).2
              have HOB := hide (unhide HO5).1
              clear hb5 HO5
              have hszy := (unhide HBY).size
              go_wp2
              go_returns
              exact ⟨.inr ⟨hn, k, HAT, .inr ⟨unhide HN9, rfl⟩⟩, unhide HB5⟩
          · have HWR : Hid (wrt m = []) := by show _ = _; unfold wrt; rw [hpe]; rfl
            have HN0 : Hid (putN l m k = 0) := by show _ = _; unfold putN; rw [if_pos hn, if_pos (.inr (.inl hpe))]
            go_wp2_with fail
            refine (copyms_any _ _ _ (unhide HM1) (by rw [List.length_take]; have := unhide HLEN; omega)).mono ?_
            rintro e w5 ⟨vo, qs, rfl, HO5, hb5⟩
            clear y0 y1 y2 y3 y4 y5 y6
            obtain ⟨y0, y1, y2, y3, y4, y5, y6⟩ := box7 (bnx (unhide HBXD) hb5)
            have HB5 : Hid (Below w.heap.size w w5) := bnx (unhide HBW) hb5
            have hsz5 := (unhide HB5).size
            have HBY := hide hb5
            have HQL : Hid (qs.length ≤ 1000000) := by show _ ≤ _; have h := congrArg List.length (unhide HO5).2; rw [List.length_map, List.length_take] at h; have := unhide HLEN; omega
            have HO2 := hide ((unhide HO5).1.mono (B' := w.heap.size) (by omega))
            have HQM := hide (unhide HO5).2
            have HOB := hide (unhide HO5).1
            clear hb5 HO5
            have hszy := (unhide HBY).size
            go_wp2_with fail
            have HO7 := HO2
            have HB7 := HB5
            have HB57 := hide (unhide HBY)
            have HQ7 : Hid (qs.map (·.1) = l.take k ++ wrt m) := by show _ = _; rw [unhide HQM, unhide HWR, List.append_nil]
            have hl7 := unhide HQL
            have hsz7 := (unhide HB7).size
            refine (copyms_nil _ _ _).mono ?_
            rintro e w8 ⟨rfl, hw8⟩
            obtain rfl := hw8
            go_wp2_with (first | (at_builtin; refine wpList_append_own_none rfl _ _ 23 rfl w.heap.size 26 i0 7 Tryz.underlying23 hi _ _ _ rfl (unhide HO7).row rfl ?_) | go_in)
            go_wp2
            go_returns
            exact ⟨.inr ⟨hn, k, HAT, .inl ⟨unhide HN0, _, _, rfl, unhide HO7, by rw [unhide HD, unhide HQ7, unhide HX, List.append_nil]⟩⟩, unhide HB7⟩
        · skip
          cases hpe : m.payload.toList.isEmpty
          · by_cases h64 : k < 64
            · have HWR : Hid (wrt m = [m]) := by show _ = _; unfold wrt; rw [hpe]; rfl
              have HN0 : Hid (putN l m k = 0) := by show _ = _; unfold putN; rw [if_pos hn, if_pos (.inr (.inr (by rw [unhide HLEN]; exact h64)))]
              go_wp2_with fail
              refine (copyms_any _ _ _ (unhide HM1) (by rw [List.length_take]; have := unhide HLEN; omega)).mono ?_
              rintro e w5 ⟨vo, qs, rfl, HO5, hb5⟩
              clear y0 y1 y2 y3 y4 y5 y6
              obtain ⟨y0, y1, y2, y3, y4, y5, y6⟩ := box7 (bnx (unhide HBXD) hb5)
              have HB5 : Hid (Below w.heap.size w w5) := bnx (unhide HBW) hb5
              have hsz5 := (unhide HB5).size
              have HBY := hide hb5
              have HQL : Hid (qs.length ≤ 1000000) := by show _ ≤ _; have h := congrArg List.length (unhide HO5).2; rw [List.length_map, List.length_take] at h; have := unhide HLEN; omega
              have HO2 := hide ((unhide HO5).1.mono (B' := w.heap.size) (by omega))
              have HQM := hide (unhide HO5).2
              have HOB := hide (unhide HO5).1
              clear hb5 HO5
              have hszy := (unhide HBY).size
              go_wp2_with fail
              refine (copym_any m mo mc _ ((unhide HP).below (unhide HB5))).mono ?_
              rintro e w6 ⟨sv, rfl, HS, hb6⟩
              obtain ⟨so, sc, rfl⟩ := owns_slice (unhide HS)
              have HO3 := hide ((unhide HO2).below hb6)
              have HOG : Hid (∀ g, vo.ownBlock = some g → wd.heap.size ≤ g) := fun g hg => ((unhide HOB).blk g hg).1
              have HB6 := hide hb6
              have hsz6 := hb6.size
              clear hb6
              go_wp2_with (first | (at_builtin; refine wpList_append_own _ rfl _ _ 23 rfl w.heap.size 26 i0 _ 7 96 Tryz.underlying23 hi hz0 hz1 hz2 rfl (by decide) _ _ _ rfl ((unhide HO3).row.alloc _) ⟨w6.heap.size, 0, none⟩ 1 1 (mcs m (.slice so m.props.length sc)) rfl rfl (seven_cell _ _ _ _ _ _ _ _ _) (seven_one _ _ _ _) (by have := unhide HQL; unfold maxLen; omega) (by have := unhide HQL; omega) (by simp; omega) ?_) | go_in)
              intro v' w7 hown' hgrow _
              have HB7 : Hid (Below w.heap.size w w7) := ((bnx (unhide HB5) (unhide HB6)).alloc (by omega) _).grown hgrow (by simp; omega) (fun k hk => ((unhide HO3).blk k hk).1)
              have HB57 : Hid (Below wd.heap.size wd w7) := ((bnx (unhide HBY) (unhide HB6)).alloc (by omega) _).grown hgrow (by simp; omega) (fun k hk => (unhide HOG) k hk)
              have HO7' := hide (own_one (unhide HO3) (unhide HS) (by omega) (unhide HP).2 hgrow hown')
              have HQ7' : Hid ((qs ++ [(m, Value.slice so m.props.length sc)]).map (·.1) = l.take k ++ wrt m ∧ (qs ++ [(m, Value.slice so m.props.length sc)]).length ≤ 1000001) := ⟨by rw [List.map_append, unhide HQM, unhide HWR]; rfl, by have := unhide HQL; simp; omega⟩
              generalize qs ++ [(m, Value.slice so m.props.length sc)] = qs7 at HO7' HQ7'
              have HO7 := HO7'
              have HQ7 := hide (unhide HQ7').1
              have hl7 := (unhide HQ7').2
              have hsz7 := (unhide HB7).size
              clear hgrow hown' HO7' HQ7'
              go_wp2_with fail
              refine (copyms_nil _ _ _).mono ?_
              rintro e w8 ⟨rfl, hw8⟩
              obtain rfl := hw8
              go_wp2_with (first | (at_builtin; refine wpList_append_own_none rfl _ _ 23 rfl w.heap.size 26 i0 7 Tryz.underlying23 hi _ _ _ rfl (unhide HO7).row rfl ?_) | go_in)
              go_wp2
              go_returns
              exact ⟨.inr ⟨hn, k, HAT, .inl ⟨unhide HN0, _, _, rfl, unhide HO7, by rw [unhide HD, unhide HQ7, unhide HX, List.append_nil]⟩⟩, unhide HB7⟩
            · have HN9 : Hid (putN l m k = 9) := by show _ = _; unfold putN; rw [if_pos hn, if_neg (by rw [hth, hpe, unhide HLEN]; simp; omega)]
              go_wp2_with fail
              refine (copyms_any _ _ _ (unhide HM1) (by rw [List.length_take]; have := unhide HLEN; omega)).mono ?_
              rintro e w5 ⟨vo, qs, rfl, HO5, hb5⟩
              clear y0 y1 y2 y3 y4 y5 y6
              obtain ⟨y0, y1, y2, y3, y4, y5, y6⟩ := box7 (bnx (unhide HBXD) hb5)
              have HB5 : Hid (Below w.heap.size w w5) := bnx (unhide HBW) hb5
              have hsz5 := (unhide HB5).size
              have HBY := hide hb5
              have HQL : Hid (qs.length ≤ 1000000) := by show _ ≤ _; have h := congrArg List.length (unhide HO5).2; rw [List.length_map, List.length_take] at h; have := unhide HLEN; omega
              have HO2 := hide ((unhide HO5).1.mono (B' := w.heap.size) (by omega))
              have HQM := hide (unhide HO5).2
              have HOB := hide (unhide HO5).1
              clear hb5 HO5
              have hszy := (unhide HBY).size
              go_wp2
              go_returns
              exact ⟨.inr ⟨hn, k, HAT, .inr ⟨unhide HN9, rfl⟩⟩, unhide HB5⟩
          · have HWR : Hid (wrt m = []) := by show _ = _; unfold wrt; rw [hpe]; rfl
            have HN0 : Hid (putN l m k = 0) := by show _ = _; unfold putN; rw [if_pos hn, if_pos (.inr (.inl hpe))]
            go_wp2_with fail
            refine (copyms_any _ _ _ (unhide HM1) (by rw [List.length_take]; have := unhide HLEN; omega)).mono ?_
            rintro e w5 ⟨vo, qs, rfl, HO5, hb5⟩
            clear y0 y1 y2 y3 y4 y5 y6
            obtain ⟨y0, y1, y2, y3, y4, y5, y6⟩ := box7 (bnx (unhide HBXD) hb5)
            have HB5 : Hid (Below w.heap.size w w5) := bnx (unhide HBW) hb5
            have hsz5 := (unhide HB5).size
            have HBY := hide hb5
            have HQL : Hid (qs.length ≤ 1000000) := by show _ ≤ _; have h := congrArg List.length (unhide HO5).2; rw [List.length_map, List.length_take] at h; have := unhide HLEN; omega
            have HO2 := hide ((unhide HO5).1.mono (B' := w.heap.size) (by omega))
            have HQM := hide (unhide HO5).2
            have HOB := hide (unhide HO5).1
            clear hb5 HO5
            have hszy := (unhide HBY).size
            go_wp2_with fail
            have HO7 := HO2
            have HB7 := HB5
            have HB57 := hide (unhide HBY)
            have HQ7 : Hid (qs.map (·.1) = l.take k ++ wrt m) := by show _ = _; rw [unhide HQM, unhide HWR, List.append_nil]
            have hl7 := unhide HQL
            have hsz7 := (unhide HB7).size
            refine (copyms_nil _ _ _).mono ?_
            rintro e w8 ⟨rfl, hw8⟩
            obtain rfl := hw8
            go_wp2_with (first | (at_builtin; refine wpList_append_own_none rfl _ _ 23 rfl w.heap.size 26 i0 7 Tryz.underlying23 hi _ _ _ rfl (unhide HO7).row rfl ?_) | go_in)
            go_wp2
            go_returns
            exact ⟨.inr ⟨hn, k, HAT, .inl ⟨unhide HN0, _, _, rfl, unhide HO7, by rw [unhide HD, unhide HQ7, unhide HX, List.append_nil]⟩⟩, unhide HB7⟩
set_option maxHeartbeats 16000000 in
theorem rput_nil (ao : Option Addr) (cap : Nat) (m : Mg) (mo : Option Addr) (mc : Nat) (w : World) (hcm : cap ≤ maxLen) (hp : Pok w mo mc m.props) (hts : m.topic.size ≤ 140737488351232) :
    Calls Tryz.prog 7 #[.slice ao 0 cap, mval m (.slice mo m.props.length mc)] w (RPutPost [] m w) := by
  obtain ⟨i0, hi, hz0, hz1, hz2⟩ := info_parts infoMsg
  have HP := hide hp
  have HTS := hide hts
  clear hp hts
  go_enter Tryz.func7, Tryz.ntmps7
  cases hn : nm m
  · go_wp2_with (go_at_call 21; refine (rname_all m.topic _ (unhide HTS)).mono ?_; rintro e w2 ⟨rfl, hb2⟩; rw [show isName m.topic.data.toList = _ from hn])
    go_returns
    exact ⟨.inl ⟨hn, rfl⟩, bnx ((Below.refl _ _).alloc (Nat.le_refl _) _) hb2⟩
  · go_wp2_with (go_at_call 21; refine (rname_all m.topic _ (unhide HTS)).mono ?_; rintro e w2 ⟨rfl, hb2⟩; rw [show isName m.topic.data.toList = _ from hn])
    have HB2 : Hid (Below w.heap.size w w2) := bnx ((Below.refl _ _).alloc (Nat.le_refl _) _) hb2
    have HBX2 := hide hb2
    clear hb2
    have HAT : Hid (At [] m.topic 0) := ⟨Nat.le_refl _, fun j hj => absurd hj (Nat.not_lt_zero j), fun j _ hj => absurd hj (Nat.not_lt_zero j)⟩
    have HN0 : Hid (putN [] m 0 = 0) := by show _ = _; unfold putN; rw [if_pos hn, if_pos (.inr (.inr (by simp)))]
    have HD : Hid (putL [] m 0 = wrt m) := by show _ = _; unfold putL; simp
    refine wp_loop_rounds 1 ?_
    rw [rounds_succ]
    go_wp2_with fail
    refine wp_region_noPanic ?_
    refine wp_region_held_drew (S := (fun _ => True)) (by kernel_rfl) trivial (fun hHeld => ?_)
    refine rtk 0 (h := ?_)
    refine rtk 1 (h := ?_)
    refine rtk 2 (h := ?_)
    refine rtk 3 (h := ?_)
    refine rtk 4 (h := ?_)
    refine rsk 5 (h := ?_)
    refine rsk 6 (h := ?_)
    refine rsk 7 (h := ?_)
    refine rsk 8 (h := ?_)
    refine rsk 9 (h := ?_)
    refine rsk 10 (h := ?_)
    refine rsk 11 (h := ?_)
    refine rsk 12 (h := ?_)
    refine rtk 13 (h := ?_)
    refine wpAnyH_done (by kernel_rfl) ?_ _
    refine NoPanic.normal ?_
    go_wp2_with fail
    refine wp_region_noPanic ?_
    refine wp_region_held_drew (S := (fun _ => True)) (by kernel_rfl) trivial (fun hHeld => ?_)
    refine rtk 0 (h := ?_)
    refine rtk 1 (h := ?_)
    refine rtk 2 (h := ?_)
    refine rtk 3 (h := ?_)
    refine rtk 4 (h := ?_)
    refine rsk 5 (h := ?_)
    refine rsk 6 (h := ?_)
    refine rsk 7 (h := ?_)
    refine rsk 8 (h := ?_)
    refine rsk 9 (h := ?_)
    refine rsk 10 (h := ?_)
    refine rsk 11 (h := ?_)
    refine rsk 12 (h := ?_)
    refine rtk 13 (h := ?_)
    refine rcl 14 (h := fun K hK => ?_)
    go_simp
    refine hK.out _ _ trivial (fun hHeld => ?_)
    clear hK K
    refine wpAnyH_done (by kernel_rfl) ?_ _
    refine NoPanic.normal ?_
    have HBD : Hid (Below w2.heap.size w2 w2.drew.drew) := below_drewN (below_drewN (Below.refl _ _) 1) 1
    generalize w2.drew.drew = wd at HBD ⊢
    have HBW : Hid (Below w.heap.size w wd) := bnx (unhide HB2) (unhide HBD)
    obtain ⟨y0, y1, y2, y3, y4, y5, y6⟩ := box7 (bnx (unhide HBX2) (unhide HBD))
    have hszd := (unhide HBW).size
    cases ao with
    | none =>
      cases hpe : m.payload.toList.isEmpty
      · have HWR : Hid (wrt m = [m]) := by show _ = _; unfold wrt; rw [hpe]; rfl
        go_wp2_with fail
        refine (copyms_nil _ _ _).mono ?_
        rintro e w5 ⟨rfl, hw5⟩
        obtain rfl := hw5
        go_wp2_with fail
        refine (copym_any m mo mc _ ((unhide HP).below (unhide HBW))).mono ?_
        rintro e w6 ⟨sv, rfl, HS, hb6⟩
        obtain ⟨so, sc, rfl⟩ := owns_slice (unhide HS)
        have HO3 := hide (OwnMs.nil w6 w.heap.size)
        have HB6 := hide hb6
        have hsz6 := hb6.size
        clear hb6
        go_wp2_with (first | (at_builtin; refine wpList_append_own _ rfl _ _ 23 rfl w.heap.size 26 i0 _ 7 96 Tryz.underlying23 hi hz0 hz1 hz2 rfl (by decide) _ _ _ rfl ((World.ownsRow_nil w6 w.heap.size 26 7).alloc _) ⟨w6.heap.size, 0, none⟩ 1 1 (mcs m (.slice so m.props.length sc)) rfl rfl (seven_cell _ _ _ _ _ _ _ _ _) (seven_one _ _ _ _) (by have := Nat.le_refl 0; unfold maxLen; omega) (by have := Nat.le_refl 0; omega) (by simp; omega) ?_) | go_in)
        intro v' w7 hown' hgrow _
        have HB7 : Hid (Below w.heap.size w w7) := ((bnx (unhide HBW) (unhide HB6)).alloc (by omega) _).grown hgrow (by simp; omega) (fun k hk => ((unhide HO3).blk k hk).1)
        have HO7 := hide (own_one (qs := []) (unhide HO3) (unhide HS) (by omega) (unhide HP).2 hgrow hown')
        clear hgrow hown'
        go_wp2_with fail
        refine (copyms_nil _ _ _).mono ?_
        rintro e w8 ⟨rfl, hw8⟩
        obtain rfl := hw8
        go_wp2_with (first | (at_builtin; refine wpList_append_own_none rfl _ _ 23 rfl w.heap.size 26 i0 7 Tryz.underlying23 hi _ _ _ rfl (unhide HO7).row rfl ?_) | go_in)
        go_wp2
        go_returns
        exact ⟨.inr ⟨hn, 0, HAT, .inl ⟨unhide HN0, _, _, rfl, unhide HO7, by rw [unhide HD, unhide HWR]; rfl⟩⟩, unhide HB7⟩
      · have HWR : Hid (wrt m = []) := by show _ = _; unfold wrt; rw [hpe]; rfl
        go_wp2_with fail
        refine (copyms_nil _ _ _).mono ?_
        rintro e w5 ⟨rfl, hw5⟩
        obtain rfl := hw5
        go_wp2_with fail
        have HO7 := hide (OwnMs.nil w5 w.heap.size)
        have HB7 := HBW
        refine (copyms_nil _ _ _).mono ?_
        rintro e w8 ⟨rfl, hw8⟩
        obtain rfl := hw8
        go_wp2_with (first | (at_builtin; refine wpList_append_own_none rfl _ _ 23 rfl w.heap.size 26 i0 7 Tryz.underlying23 hi _ _ _ rfl (unhide HO7).row rfl ?_) | go_in)
        go_wp2
        go_returns
        exact ⟨.inr ⟨hn, 0, HAT, .inl ⟨unhide HN0, _, _, rfl, unhide HO7, by rw [unhide HD, unhide HWR]; rfl⟩⟩, unhide HB7⟩
    | some a =>
      by_cases hc0 : cap = 0
      · subst hc0
        cases hpe : m.payload.toList.isEmpty
        · have HWR : Hid (wrt m = [m]) := by show _ = _; unfold wrt; rw [hpe]; rfl
          go_wp2_with fail
          refine (copyms_nil _ _ _).mono ?_
          rintro e w5 ⟨rfl, hw5⟩
          obtain rfl := hw5
          go_wp2_with fail
          refine (copym_any m mo mc _ ((unhide HP).below (unhide HBW))).mono ?_
          rintro e w6 ⟨sv, rfl, HS, hb6⟩
          obtain ⟨so, sc, rfl⟩ := owns_slice (unhide HS)
          have HO3 := hide (OwnMs.nil w6 w.heap.size)
          have HB6 := hide hb6
          have hsz6 := hb6.size
          clear hb6
          go_wp2_with (first | (at_builtin; refine wpList_append_own _ rfl _ _ 23 rfl w.heap.size 26 i0 _ 7 96 Tryz.underlying23 hi hz0 hz1 hz2 rfl (by decide) _ _ _ rfl ((World.ownsRow_nil w6 w.heap.size 26 7).alloc _) ⟨w6.heap.size, 0, none⟩ 1 1 (mcs m (.slice so m.props.length sc)) rfl rfl (seven_cell _ _ _ _ _ _ _ _ _) (seven_one _ _ _ _) (by have := Nat.le_refl 0; unfold maxLen; omega) (by have := Nat.le_refl 0; omega) (by simp; omega) ?_) | go_in)
          intro v' w7 hown' hgrow _
          have HB7 : Hid (Below w.heap.size w w7) := ((bnx (unhide HBW) (unhide HB6)).alloc (by omega) _).grown hgrow (by simp; omega) (fun k hk => ((unhide HO3).blk k hk).1)
          have HO7 := hide (own_one (qs := []) (unhide HO3) (unhide HS) (by omega) (unhide HP).2 hgrow hown')
          clear hgrow hown'
          go_wp2_with fail
          refine (copyms_nil _ _ _).mono ?_
          rintro e w8 ⟨rfl, hw8⟩
          obtain rfl := hw8
          go_wp2_with (first | (at_builtin; refine wpList_append_own_none rfl _ _ 23 rfl w.heap.size 26 i0 7 Tryz.underlying23 hi _ _ _ rfl (unhide HO7).row rfl ?_) | go_in)
          go_wp2
          go_returns
          exact ⟨.inr ⟨hn, 0, HAT, .inl ⟨unhide HN0, _, _, rfl, unhide HO7, by rw [unhide HD, unhide HWR]; rfl⟩⟩, unhide HB7⟩
        · have HWR : Hid (wrt m = []) := by show _ = _; unfold wrt; rw [hpe]; rfl
          go_wp2_with fail
          refine (copyms_nil _ _ _).mono ?_
          rintro e w5 ⟨rfl, hw5⟩
          obtain rfl := hw5
          go_wp2_with fail
          have HO7 := hide (OwnMs.nil w5 w.heap.size)
          have HB7 := HBW
          refine (copyms_nil _ _ _).mono ?_
          rintro e w8 ⟨rfl, hw8⟩
          obtain rfl := hw8
          go_wp2_with (first | (at_builtin; refine wpList_append_own_none rfl _ _ 23 rfl w.heap.size 26 i0 7 Tryz.underlying23 hi _ _ _ rfl (unhide HO7).row rfl ?_) | go_in)
          go_wp2
          go_returns
          exact ⟨.inr ⟨hn, 0, HAT, .inl ⟨unhide HN0, _, _, rfl, unhide HO7, by rw [unhide HD, unhide HWR]; rfl⟩⟩, unhide HB7⟩
      · skip
        cases hpe : m.payload.toList.isEmpty
        · have HWR : Hid (wrt m = [m]) := by show _ = _; unfold wrt; rw [hpe]; rfl
          go_wp2_with fail
          refine (copyms_nil _ _ _).mono ?_
          rintro e w5 ⟨rfl, hw5⟩
          obtain rfl := hw5
          go_wp2_with fail
          refine (copym_any m mo mc _ ((unhide HP).below (unhide HBW))).mono ?_
          rintro e w6 ⟨sv, rfl, HS, hb6⟩
          obtain ⟨so, sc, rfl⟩ := owns_slice (unhide HS)
          have HO3 := hide (OwnMs.nil w6 w.heap.size)
          have HB6 := hide hb6
          have hsz6 := hb6.size
          clear hb6
          go_wp2_with (first | (at_builtin; refine wpList_append_own _ rfl _ _ 23 rfl w.heap.size 26 i0 _ 7 96 Tryz.underlying23 hi hz0 hz1 hz2 rfl (by decide) _ _ _ rfl ((World.ownsRow_nil w6 w.heap.size 26 7).alloc _) ⟨w6.heap.size, 0, none⟩ 1 1 (mcs m (.slice so m.props.length sc)) rfl rfl (seven_cell _ _ _ _ _ _ _ _ _) (seven_one _ _ _ _) (by have := Nat.le_refl 0; unfold maxLen; omega) (by have := Nat.le_refl 0; omega) (by simp; omega) ?_) | go_in)
          intro v' w7 hown' hgrow _
          have HB7 : Hid (Below w.heap.size w w7) := ((bnx (unhide HBW) (unhide HB6)).alloc (by omega) _).grown hgrow (by simp; omega) (fun k hk => ((unhide HO3).blk k hk).1)
          have HO7 := hide (own_one (qs := []) (unhide HO3) (unhide HS) (by omega) (unhide HP).2 hgrow hown')
          clear hgrow hown'
          go_wp2_with fail
          refine (copyms_nil _ _ _).mono ?_
          rintro e w8 ⟨rfl, hw8⟩
          obtain rfl := hw8
          go_wp2_with (first | (at_builtin; refine wpList_append_own_none rfl _ _ 23 rfl w.heap.size 26 i0 7 Tryz.underlying23 hi _ _ _ rfl (unhide HO7).row rfl ?_) | go_in)
          go_wp2
          go_returns
          exact ⟨.inr ⟨hn, 0, HAT, .inl ⟨unhide HN0, _, _, rfl, unhide HO7, by rw [unhide HD, unhide HWR]; rfl⟩⟩, unhide HB7⟩
        · have HWR : Hid (wrt m = []) := by show _ = _; unfold wrt; rw [hpe]; rfl
          go_wp2_with fail
          refine (copyms_nil _ _ _).mono ?_
          rintro e w5 ⟨rfl, hw5⟩
          obtain rfl := hw5
          go_wp2_with fail
          have HO7 := hide (OwnMs.nil w5 w.heap.size)
          have HB7 := HBW
          refine (copyms_nil _ _ _).mono ?_
          rintro e w8 ⟨rfl, hw8⟩
          obtain rfl := hw8
          go_wp2_with (first | (at_builtin; refine wpList_append_own_none rfl _ _ 23 rfl w.heap.size 26 i0 7 Tryz.underlying23 hi _ _ _ rfl (unhide HO7).row rfl ?_) | go_in)
          go_wp2
          go_returns
          exact ⟨.inr ⟨hn, 0, HAT, .inl ⟨unhide HN0, _, _, rfl, unhide HO7, by rw [unhide HD, unhide HWR]; rfl⟩⟩, unhide HB7⟩
theorem rput_any (v : Value) (l : List Mg) (m : Mg) (mo : Option Addr) (mc : Nat) (w : World) (hmx : l.length ≤ 1000000) (hm : mayL l) (h : Mgs w v l) (hp : Pok w mo mc m.props) (hts : m.topic.size ≤ 140737488351232) :
    Calls Tryz.prog 7 #[v, mval m (.slice mo m.props.length mc)] w (RPutPost l m w) := by
  obtain ⟨ao, cap, rfl, hcap, rfl | ⟨b, off, rfl, hc⟩⟩ := h
  · exact rput_nil ao cap m mo mc w hcap.2 hp hts
  · exact rput_core b off cap l m mo mc _ w rfl hcap hmx hm hc hp hts
end Go.Proofs.YtknbgnoahfeigaaGreatDoor.M
