/- Proved here: the contracts of retain.check and of the page's Messages. Helper contracts. -/
import Derived.Test.YtknbgnoahfeigaaGreatDoorZMRet
import Derived.Test.YtknbgnoahfeigaaGreatDoorZKTk
import Derived.Laws.Cover1
namespace Go.Proofs.YtknbgnoahfeigaaGreatDoor.M
open Go.RowKit
set_option maxRecDepth 100000

abbrev cmpB (a b : ByteArray) : Int := Lib.compareBytes a.data.toList b.data.toList
theorem bless : ∀ (x y : List UInt8), Op.bytesLess x y = decide (Lib.compareBytes x y < 0)
  | [], [] => by simp [Op.bytesLess, Lib.compareBytes]
  | _ :: _, [] => by simp [Op.bytesLess, Lib.compareBytes]
  | [], _ :: _ => by simp [Op.bytesLess, Lib.compareBytes]
  | a :: x, b :: y => by
    rw [Op.bytesLess, bless x y, Lib.compareBytes]
    by_cases h1 : a < b
    · simp [h1]
    · by_cases h2 : b < a
      · have h3 : a ≠ b := by rintro rfl; exact h1 h2
        simp [h1, h2, h3]
      · have h3 : a = b := by
          rw [UInt8.lt_iff_toNat_lt] at h1 h2
          exact UInt8.toNat_inj.1 (by omega)
        simp [h3]
theorem bless_ba (a b : ByteArray) : Op.bytesLess a.toList b.toList = decide (cmpB a b < 0) := by rw [bless, Lib.toList_data, Lib.toList_data]
def okAt (l : List Mg) (i : Nat) : Bool := isName (l.getD i mg0).topic.data.toList && (decide (i = 0) || decide (cmpB (l.getD (i - 1) mg0).topic (l.getD i mg0).topic < 0))
/-- a list that may be -/
def mayL (l : List Mg) : Prop := ∀ i, i < l.length → okAt l i = true
def CheckPost (l : List Mg) (w : World) (e : Ending) (w' : World) : Prop := ((mayL l ∧ e = .returned .nilIface) ∨ (¬ mayL l ∧ ∃ x, e = .returned (.iface 76 x) ∧ Hid (Era w' (.iface 76 x) 1))) ∧ Below w.heap.size w w'
/-- topics that a machine could hold -/
def TopOk (l : List Mg) : Prop := ∀ i, i < l.length → (l.getD i mg0).topic.size ≤ 140737488351232
/-- what stands behind the test of the order, of check -/
theorem okAt_zero (l : List Mg) : okAt l 0 = isName (l.getD 0 mg0).topic.data.toList := by simp [okAt]
theorem okAt_succ (l : List Mg) (j : Nat) : okAt l (j + 1) = (isName (l.getD (j + 1) mg0).topic.data.toList && decide (cmpB (l.getD j mg0).topic (l.getD (j + 1) mg0).topic < 0)) := by simp [okAt]
theorem not_may {l : List Mg} {k : Nat} (hk : k < l.length) (h : okAt l k = false) : ¬ mayL l := fun hm => by rw [hm k hk] at h; cases h
theorem all_succ {l : List Mg} {k : Nat} (h : ∀ j, j < k → okAt l j = true) (h1 : okAt l k = true) : ∀ j, j < k + 1 → okAt l j = true := fun j hj => by
  rcases Nat.lt_succ_iff_lt_or_eq.1 hj with h2 | h2
  · exact h j h2
  · rw [h2]; exact h1
set_option maxHeartbeats 8000000 in
theorem check_core (b off cap : Nat) (l : List Mg) (len : Nat) (w : World) (hlen : l.length = len) (hmx : len ≤ 1000000000) (ht : TopOk l) (hl : MgAt w b off l) :
    Calls Tryz.prog 28 #[.slice (some ⟨b, off, none⟩) len cap] w (CheckPost l w) := by
  have HL := hide hl
  have HT := hide ht
  have HLEN := hide hlen
  clear hl ht hlen
  go_enter Tryz.func28, Tryz.ntmps28
  go_wp2
  go_loopw [8] (fun i wr => ∃ k : Nat, k ≤ len ∧ i = .int .i64 k ∧ Hid (∀ j, j < k → okAt l j = true) ∧ Hid (Below w.heap.size w wr)) (fun i _ => len - (intOf i).toNat)
  case atStart => exact ⟨0, Nat.zero_le _, rfl, fun j hj => absurd hj (Nat.not_lt_zero j), Below.refl _ _⟩
  case round =>
    obtain ⟨k, hk, rfl, HALL, HBEL⟩ := hrel
    by_cases hlt : k < len
    · have HLT : Hid (k < l.length) := by show _ < _; rw [unhide HLEN]; exact hlt
      have HSZ := hide ((unhide HT) k (unhide HLT))
      obtain ⟨ao, c, ⟨x0, x1, x2, x3, x4, x5, x6⟩, _⟩ := ((unhide HL).below (unhide HBEL)) k (unhide HLT)
      rcases k with _ | j
      · have HOK := hide (okAt_zero l)
        generalize l.getD 0 mg0 = u at x0 x1 x2 x3 x4 x5 x6 HSZ HOK
        simp only [Nat.zero_mul, Nat.add_zero] at x0 x1 x2 x3 x4 x5 x6
        go_wp2_with fail
        refine wp_region_noPanic ?_
        refine wp_region_held_drew (S := (fun _ => True)) (by kernel_rfl) trivial (fun hHeld => ?_)
        refine rtk 0 (h := ?_)
        refine rtk 1 (h := ?_)
        refine rtk 2 (h := ?_)
        refine rsk 3 (h := ?_)
        refine rsk 4 (h := ?_)
        refine rsk 5 (h := ?_)
        refine rsk 6 (h := ?_)
        refine rsk 7 (h := ?_)
        refine rsk 8 (h := ?_)
        refine rsk 9 (h := ?_)
        refine rsk 10 (h := ?_)
        refine rsk 11 (h := ?_)
        refine rtk 12 (h := ?_)
        refine rcl 13 (h := fun K hK => ?_)
        go_simp
        refine hK.out _ _ trivial (fun hHeld => ?_)
        clear hK K
        refine wpAnyH_done (by kernel_rfl) ?_ _
        refine NoPanic.normal ?_
        have HB2 : Hid (Below wr.heap.size wr (wr.alloc (.cells #[Value.string u.topic, Value.string u.payload, Value.int IntKind.i64 u.qos, Value.bool u.ret, Value.string u.frm, Value.int IntKind.i64 u.untl, Value.slice ao u.props.length c] 26)).drew) := below_drewN ((Below.refl _ _).alloc (Nat.le_refl _) _) 1
        have y0 : ((wr.alloc (.cells #[Value.string u.topic, Value.string u.payload, Value.int IntKind.i64 u.qos, Value.bool u.ret, Value.string u.frm, Value.int IntKind.i64 u.untl, Value.slice ao u.props.length c] 26)).drew).cell? ⟨wr.heap.size, 0, none⟩ = some (.string u.topic) := by simp
        generalize (wr.alloc (.cells #[Value.string u.topic, Value.string u.payload, Value.int IntKind.i64 u.qos, Value.bool u.ret, Value.string u.frm, Value.int IntKind.i64 u.untl, Value.slice ao u.props.length c] 26)).drew = w2 at HB2 y0 ⊢
        have HOK2 := HOK
        clear HOK
        cases hn : isName u.topic.data.toList
        · have HNO : Hid (okAt l (0) = false) := by show _ = _; rw [unhide HOK2, hn]
          go_wp2_with (first
            | (go_at_call 29; refine (namen u.topic _ (unhide HSZ) hn).mono ?_; rintro e w3 ⟨x, rfl, hx, hb3⟩)
            | (go_at_call 46; refine (er_Is 1 (by decide) _ 5 5 _ (unhide hx)).mono ?_; rintro e w4 ⟨rfl, rfl⟩)
            | (go_at_call 30; refine (rfault_n 1 _).mono ?_; rintro e w5 ⟨y, rfl, hy, hb5⟩))
          go_ret
          exact ⟨.inr ⟨not_may (unhide HLT) (unhide HNO), y, rfl, hy⟩, bnx (bnx (bnx (unhide HBEL) (unhide HB2)) hb3) hb5⟩
        · have HYES : Hid (okAt l (0) = true) := by show _ = _; rw [unhide HOK2, hn]
          go_wp2_with (first
            | (go_at_call 29; refine (namey u.topic _ hn).mono ?_; rintro e w3 ⟨rfl, hb3⟩)
            | (go_at_call 46; refine (isnil 5 _).mono ?_; rintro e w4 ⟨rfl, rfl⟩))
          go_roundw
          case rel => exact ⟨0 + 1, by omega, by go_num, all_succ (unhide HALL) (unhide HYES), bnx (bnx (unhide HBEL) (unhide HB2)) hb3⟩
          case measure => simp [intOf] <;> omega
      · have HOK := hide (okAt_succ l j)
        have hwj : IntKind.i64.wrap (j : Int) = j := by rw [IntKind.wrap_i64]; omega
        obtain ⟨ao', c', hc', _⟩ := ((unhide HL).below (unhide HBEL)) j (by have := unhide HLT; omega)
        generalize l.getD (j + 1) mg0 = u at x0 x1 x2 x3 x4 x5 x6 HSZ HOK
        generalize l.getD j mg0 = v at hc' HOK
        have HK : Hid (∀ W : World, Below (wr.alloc (.cells (mcs u (.slice ao u.props.length c)).toArray 26)).heap.size (wr.alloc (.cells (mcs u (.slice ao u.props.length c)).toArray 26)) W → C7 W b (off + j * 7) v (.slice ao' v.props.length c') ∧ W.cell? ⟨wr.heap.size, 0, none⟩ = some (.string u.topic)) := fun W hW => ⟨(hc'.below ((Below.refl _ _).alloc (Nat.le_refl _) _)).below hW, (hW.cell (p := ⟨wr.heap.size, 0, none⟩) (by simp)).trans (by simp)⟩
        clear hc'
        go_wp2_with fail
        refine wp_region_noPanic ?_
        refine wp_region_held_drew (S := (fun w' => (w'.cell? ⟨b, off + j * 7, none⟩ = some (.string v.topic) ∧ w'.cell? ⟨b, off + j * 7 + 1, none⟩ = some (.string v.payload) ∧ w'.cell? ⟨b, off + j * 7 + 2, none⟩ = some (.int .i64 v.qos) ∧ w'.cell? ⟨b, off + j * 7 + 3, none⟩ = some (.bool v.ret) ∧ w'.cell? ⟨b, off + j * 7 + 4, none⟩ = some (.string v.frm) ∧ w'.cell? ⟨b, off + j * 7 + 5, none⟩ = some (.int .i64 v.untl) ∧ w'.cell? ⟨b, off + j * 7 + 6, none⟩ = some (.slice ao' v.props.length c')) ∧ w'.cell? ⟨wr.heap.size, 0, none⟩ = some (.string u.topic))) (by kernel_rfl) ((unhide HK) _ (below_drewN (Below.refl _ _) 1)) (fun hHeld => ?_)
        refine rtk 0 (h := ?_)
        refine rtk 1 (h := ?_)
        refine rtk 2 (h := ?_)
        refine rtk 3 (h := ?_)
        refine rtk 4 (h := ?_)
        refine rtk 5 (h := ?_)
        refine rtk 6 (h := ?_)
        refine rtk 7 (h := ?_)
        refine rtk 8 (h := ?_)
        refine rtk 9 (h := ?_)
        refine rcl 10 (h := fun K hK => ?_)
        go_simp
        refine (against_any v _ u.topic _ ⟨_, _, _, rfl⟩).mono ?_
        rintro e w2 ⟨rfl, hb2⟩
        have HB2 : Hid (Below (wr.alloc (.cells (mcs u (.slice ao u.props.length c)).toArray 26)).heap.size (wr.alloc (.cells (mcs u (.slice ao u.props.length c)).toArray 26)) w2) := (below_drewN (Below.refl _ _) 1).trans hb2
        clear hb2
        refine hK.out _ _ ((unhide HK) _ (unhide HB2)) (fun hHeld => ?_)
        clear hK K
        refine rtk 11 (h := ?_)
        refine rtk 12 (h := ?_)
        refine rcl 13 (h := fun K hK => ?_)
        go_simp
        refine hK.out _ _ ((unhide HK) _ (unhide HB2)) (fun hHeld => ?_)
        clear hK K
        refine wpAnyH_done (by kernel_rfl) ?_ _
        refine NoPanic.normal ?_
        have y0 := ((unhide HK) _ (unhide HB2)).2
        have HB3 : Hid (Below wr.heap.size wr w2) := bnx ((Below.refl _ _).alloc (Nat.le_refl _) _) (unhide HB2)
        clear HB2
        have HB2 := HB3
        clear HB3 HK
        by_cases hcmp : cmpB v.topic u.topic < 0
        · have HOK2 : Hid (okAt l (j + 1) = isName u.topic.data.toList) := by show _ = _; rw [unhide HOK, decide_eq_true hcmp, Bool.and_true]
          have hge : ¬ (0 ≤ cmpB v.topic u.topic) := by omega
          clear HOK
          cases hn : isName u.topic.data.toList
          · have HNO : Hid (okAt l (j + 1) = false) := by show _ = _; rw [unhide HOK2, hn]
            go_wp2_with (first
              | (go_at_call 29; refine (namen u.topic _ (unhide HSZ) hn).mono ?_; rintro e w3 ⟨x, rfl, hx, hb3⟩)
              | (go_at_call 46; refine (er_Is 1 (by decide) _ 5 5 _ (unhide hx)).mono ?_; rintro e w4 ⟨rfl, rfl⟩)
              | (go_at_call 30; refine (rfault_n 1 _).mono ?_; rintro e w5 ⟨y, rfl, hy, hb5⟩))
            go_ret
            exact ⟨.inr ⟨not_may (unhide HLT) (unhide HNO), y, rfl, hy⟩, bnx (bnx (bnx (unhide HBEL) (unhide HB2)) hb3) hb5⟩
          · have HYES : Hid (okAt l (j + 1) = true) := by show _ = _; rw [unhide HOK2, hn]
            go_wp2_with (first
              | (go_at_call 29; refine (namey u.topic _ hn).mono ?_; rintro e w3 ⟨rfl, hb3⟩)
              | (go_at_call 46; refine (isnil 5 _).mono ?_; rintro e w4 ⟨rfl, rfl⟩))
            go_roundw
            case rel => exact ⟨j + 1 + 1, by omega, by go_num, all_succ (unhide HALL) (unhide HYES), bnx (bnx (unhide HBEL) (unhide HB2)) hb3⟩
            case measure => simp [intOf] <;> omega
        · have HNO : Hid (okAt l (j + 1) = false) := by show _ = _; rw [unhide HOK, decide_eq_false hcmp, Bool.and_false]
          have hge : 0 ≤ cmpB v.topic u.topic := by omega
          go_wp2_with (go_at_call 30; refine (rfault_n 1 _).mono ?_; rintro e w5 ⟨x, rfl, hx, hb5⟩)
          go_ret
          exact ⟨.inr ⟨not_may (unhide HLT) (unhide HNO), x, rfl, hx⟩, bnx (bnx (unhide HBEL) (unhide HB2)) hb5⟩
    · obtain rfl : k = len := by omega
      go_wp2
      go_ret
      exact ⟨.inl ⟨fun j hj => (unhide HALL) j (by rw [unhide HLEN] at hj; exact hj), rfl⟩, unhide HBEL⟩
theorem check_any (v : Value) (l : List Mg) (w : World) (hmx : l.length ≤ 1000000000) (ht : TopOk l) (h : Mgs w v l) : Calls Tryz.prog 28 #[v] w (CheckPost l w) := by
  obtain ⟨ao, cap, rfl, _, rfl | ⟨b, off, rfl, hc⟩⟩ := h
  · go_enter Tryz.func28, Tryz.ntmps28
    go_wp2
    refine wp_loop_rounds 1 ?_
    rw [rounds_succ]
    go_wp2
    go_ret
    exact ⟨.inl ⟨fun j hj => absurd hj (Nat.not_lt_zero j), rfl⟩, Below.refl _ _⟩
  · exact check_core b off cap l _ w rfl hmx ht hc
set_option maxHeartbeats 8000000 in
theorem rmsgs_core (b off cap : Nat) (l : List Mg) (len : Nat) (w : World) (hlen : l.length = len) (hmx : len ≤ 1000000000) (ht : TopOk l) (hl : MgAt w b off l) :
    Calls Tryz.prog 6 #[.slice (some ⟨b, off, none⟩) len cap] w fun e w' => (∃ r, e = .returned (.bool r) ∧ Hid (r = true ↔ mayL l)) ∧ Below w.heap.size w w' := by
  have HL := hide hl
  have HT := hide ht
  have HLEN := hide hlen
  clear hl ht hlen
  go_enter Tryz.func6, Tryz.ntmps6
  go_wp2
  go_loopw [3] (fun i wr => ∃ k : Nat, k ≤ len ∧ i = .int .i64 k ∧ Hid (∀ j, j < k → okAt l j = true) ∧ Hid (Below w.heap.size w wr)) (fun i _ => len - (intOf i).toNat)
  case atStart => exact ⟨0, Nat.zero_le _, rfl, fun j hj => absurd hj (Nat.not_lt_zero j), Below.refl _ _⟩
  case round =>
    obtain ⟨k, hk, rfl, HALL, HBEL⟩ := hrel
    by_cases hlt : k < len
    · have HLT : Hid (k < l.length) := by show _ < _; rw [unhide HLEN]; exact hlt
      have HSZ := hide ((unhide HT) k (unhide HLT))
      obtain ⟨ao, c, ⟨x0, _⟩, _⟩ := ((unhide HL).below (unhide HBEL)) k (unhide HLT)
      cases hn : isName (l.getD k mg0).topic.data.toList
      · have HNO : Hid (okAt l k = false) := by show _ = _; unfold okAt; rw [hn]; rfl
        generalize l.getD k mg0 = u at x0 HSZ hn
        have HK : Hid (∀ W : World, Below wr.heap.size wr W → W.cell? ⟨b, off + k * 7, none⟩ = some (.string u.topic)) := fun W hW => (hW.cell (cell_lt x0)).trans x0
        go_wp2_with fail
        refine wp_region_noPanic ?_
        refine wp_region_held_drew (S := (fun w' => w'.cell? ⟨b, off + k * 7, none⟩ = some (.string u.topic))) (by kernel_rfl) ((unhide HK) _ (below_drewN (Below.refl _ _) 1)) (fun hHeld => ?_)
        refine rtk 0 (h := ?_)
        refine rtk 1 (h := ?_)
        refine rtk 2 (h := ?_)
        refine rtk 3 (h := ?_)
        refine rtk 4 (h := ?_)
        refine rcl 5 (h := fun K hK => ?_)
        go_simp
        refine (rname_all u.topic _ (unhide HSZ)).mono ?_
        rintro e w2 ⟨rfl, hb2⟩
        have HB2 : Hid (Below wr.heap.size wr w2) := (below_drewN (Below.refl _ _) 1).trans hb2
        clear hb2
        rw [hn]
        refine hK.out _ _ ((unhide HK) _ (unhide HB2)) (fun hHeld => ?_)
        clear hK K
        refine rtk 6 (h := ?_)
        refine rtk 7 (h := ?_)
        refine rsk 8 (h := ?_)
        refine rsk 9 (h := ?_)
        refine rsk 10 (h := ?_)
        refine rsk 11 (h := ?_)
        refine rsk 12 (h := ?_)
        refine rsk 13 (h := ?_)
        refine rsk 14 (h := ?_)
        refine rsk 15 (h := ?_)
        refine rsk 16 (h := ?_)
        refine rsk 17 (h := ?_)
        refine rsk 18 (h := ?_)
        refine rsk 19 (h := ?_)
        refine rsk 20 (h := ?_)
        refine rsk 21 (h := ?_)
        refine rsk 22 (h := ?_)
        refine rsk 23 (h := ?_)
        refine rtk 24 (h := ?_)
        refine wpAnyH_done (by kernel_rfl) ?_ _
        refine NoPanic.normal ?_
        go_wp2
        go_ret
        exact ⟨⟨_, rfl, ⟨fun h => (by cases h), fun h => absurd h (not_may (unhide HLT) (unhide HNO))⟩⟩, bnx (unhide HBEL) (unhide HB2)⟩
      · rcases k with _ | j
        · have HYES : Hid (okAt l 0 = true) := by show _ = _; rw [okAt_zero, hn]
          generalize l.getD 0 mg0 = u at x0 HSZ hn
          have x0' : wr.cell? ⟨b, off, none⟩ = some (.string u.topic) := by simpa using x0
          have HK : Hid (∀ W : World, Below wr.heap.size wr W → W.cell? ⟨b, off, none⟩ = some (.string u.topic)) := fun W hW => (hW.cell (cell_lt x0')).trans x0'
          clear x0
          go_wp2_with fail
          refine wp_region_noPanic ?_
          refine wp_region_held_drew (S := (fun w' => w'.cell? ⟨b, off, none⟩ = some (.string u.topic))) (by kernel_rfl) ((unhide HK) _ (below_drewN (Below.refl _ _) 1)) (fun hHeld => ?_)
          refine rtk 0 (h := ?_)
          refine rtk 1 (h := ?_)
          refine rtk 2 (h := ?_)
          refine rtk 3 (h := ?_)
          refine rtk 4 (h := ?_)
          refine rcl 5 (h := fun K hK => ?_)
          go_simp
          refine (rname_all u.topic _ (unhide HSZ)).mono ?_
          rintro e w2 ⟨rfl, hb2⟩
          have HB2 : Hid (Below wr.heap.size wr w2) := (below_drewN (Below.refl _ _) 1).trans hb2
          clear hb2
          rw [hn]
          refine hK.out _ _ ((unhide HK) _ (unhide HB2)) (fun hHeld => ?_)
          clear hK K
          refine rtk 6 (h := ?_)
          refine rtk 7 (h := ?_)
          refine rtk 8 (h := ?_)
          refine rtk 9 (h := ?_)
          refine rtk 10 (h := ?_)
          refine rsk 11 (h := ?_)
          refine rsk 12 (h := ?_)
          refine rsk 13 (h := ?_)
          refine rsk 14 (h := ?_)
          refine rsk 15 (h := ?_)
          refine rsk 16 (h := ?_)
          refine rsk 17 (h := ?_)
          refine rsk 18 (h := ?_)
          refine rsk 19 (h := ?_)
          refine rsk 20 (h := ?_)
          refine rsk 21 (h := ?_)
          refine rsk 22 (h := ?_)
          refine rtk 23 (h := ?_)
          refine rtk 24 (h := ?_)
          refine wpAnyH_done (by kernel_rfl) ?_ _
          refine NoPanic.normal ?_
          go_wp2
          go_roundw
          case rel => exact ⟨0 + 1, by omega, by go_num, all_succ (unhide HALL) (unhide HYES), bnx (unhide HBEL) (unhide HB2)⟩
          case measure => simp [intOf] <;> omega
        · have HOK := hide (okAt_succ l j)
          have hwj : IntKind.i64.wrap (j : Int) = j := by rw [IntKind.wrap_i64]; omega
          obtain ⟨ao', c', ⟨y0, _⟩, _⟩ := ((unhide HL).below (unhide HBEL)) j (by have := unhide HLT; omega)
          rw [hn] at HOK
          generalize l.getD (j + 1) mg0 = u at x0 HSZ hn HOK
          generalize l.getD j mg0 = v at y0 HOK
          have HK : Hid (∀ W : World, Below wr.heap.size wr W → W.cell? ⟨b, off + (j + 1) * 7, none⟩ = some (.string u.topic) ∧ W.cell? ⟨b, off + j * 7, none⟩ = some (.string v.topic)) := fun W hW => ⟨(hW.cell (cell_lt x0)).trans x0, (hW.cell (cell_lt y0)).trans y0⟩
          have hbl := bless_ba v.topic u.topic
          by_cases hcmp : cmpB v.topic u.topic < 0
          · rw [decide_eq_true hcmp] at hbl HOK
            go_wp2_with fail
            refine wp_region_noPanic ?_
            refine wp_region_held_drew (S := (fun w' => w'.cell? ⟨b, off + (j + 1) * 7, none⟩ = some (.string u.topic) ∧ w'.cell? ⟨b, off + j * 7, none⟩ = some (.string v.topic))) (by kernel_rfl) ((unhide HK) _ (below_drewN (Below.refl _ _) 1)) (fun hHeld => ?_)
            refine rtk 0 (h := ?_)
            refine rtk 1 (h := ?_)
            refine rtk 2 (h := ?_)
            refine rtk 3 (h := ?_)
            refine rtk 4 (h := ?_)
            refine rcl 5 (h := fun K hK => ?_)
            go_simp
            refine (rname_all u.topic _ (unhide HSZ)).mono ?_
            rintro e w2 ⟨rfl, hb2⟩
            have HB2 : Hid (Below wr.heap.size wr w2) := (below_drewN (Below.refl _ _) 1).trans hb2
            clear hb2
            rw [hn]
            refine hK.out _ _ ((unhide HK) _ (unhide HB2)) (fun hHeld => ?_)
            clear hK K
            refine rtk 6 (h := ?_)
            refine rtk 7 (h := ?_)
            refine rtk 8 (h := ?_)
            refine rtk 9 (h := ?_)
            refine rtk 10 (h := ?_)
            refine rtk 11 (h := ?_)
            refine rtk 12 (h := ?_)
            refine rtk 13 (h := ?_)
            refine rtk 14 (h := ?_)
            refine rtk 15 (h := ?_)
            refine rtk 16 (h := ?_)
            refine rtk 17 (h := ?_)
            refine rtk 18 (h := ?_)
            refine rtk 19 (h := ?_)
            refine rtk 20 (h := ?_)
            refine rtk 21 (h := ?_)
            refine rtk 22 (h := ?_)
            refine rtk 23 (h := ?_)
            refine rtk 24 (h := ?_)
            refine wpAnyH_done (by kernel_rfl) ?_ _
            refine NoPanic.normal ?_
            go_wp2
            go_roundw
            case rel => exact ⟨j + 1 + 1, by omega, by go_num, all_succ (unhide HALL) (unhide HOK), bnx (unhide HBEL) (unhide HB2)⟩
            case measure => simp [intOf] <;> omega
          · rw [decide_eq_false hcmp] at hbl HOK
            go_wp2_with fail
            refine wp_region_noPanic ?_
            refine wp_region_held_drew (S := (fun w' => w'.cell? ⟨b, off + (j + 1) * 7, none⟩ = some (.string u.topic) ∧ w'.cell? ⟨b, off + j * 7, none⟩ = some (.string v.topic))) (by kernel_rfl) ((unhide HK) _ (below_drewN (Below.refl _ _) 1)) (fun hHeld => ?_)
            refine rtk 0 (h := ?_)
            refine rtk 1 (h := ?_)
            refine rtk 2 (h := ?_)
            refine rtk 3 (h := ?_)
            refine rtk 4 (h := ?_)
            refine rcl 5 (h := fun K hK => ?_)
            go_simp
            refine (rname_all u.topic _ (unhide HSZ)).mono ?_
            rintro e w2 ⟨rfl, hb2⟩
            have HB2 : Hid (Below wr.heap.size wr w2) := (below_drewN (Below.refl _ _) 1).trans hb2
            clear hb2
            rw [hn]
            refine hK.out _ _ ((unhide HK) _ (unhide HB2)) (fun hHeld => ?_)
            clear hK K
            refine rtk 6 (h := ?_)
            refine rtk 7 (h := ?_)
            refine rtk 8 (h := ?_)
            refine rtk 9 (h := ?_)
            refine rtk 10 (h := ?_)
            refine rtk 11 (h := ?_)
            refine rtk 12 (h := ?_)
            refine rtk 13 (h := ?_)
            refine rtk 14 (h := ?_)
            refine rtk 15 (h := ?_)
            refine rtk 16 (h := ?_)
            refine rtk 17 (h := ?_)
            refine rtk 18 (h := ?_)
            refine rtk 19 (h := ?_)
            refine rtk 20 (h := ?_)
            refine rtk 21 (h := ?_)
            refine rtk 22 (h := ?_)
            refine rtk 23 (h := ?_)
            refine rtk 24 (h := ?_)
            refine wpAnyH_done (by kernel_rfl) ?_ _
            refine NoPanic.normal ?_
            go_wp2
            go_ret
            exact ⟨⟨_, rfl, ⟨fun h => (by cases h), fun h => absurd h (not_may (unhide HLT) (unhide HOK))⟩⟩, bnx (unhide HBEL) (unhide HB2)⟩
    · obtain rfl : k = len := by omega
      go_wp2
      go_ret
      exact ⟨⟨_, rfl, ⟨fun _ j hj => (unhide HALL) j (by rw [unhide HLEN] at hj; exact hj), fun _ => rfl⟩⟩, unhide HBEL⟩
theorem rmsgs_any (v : Value) (l : List Mg) (w : World) (hmx : l.length ≤ 1000000000) (ht : TopOk l) (h : Mgs w v l) : Calls Tryz.prog 6 #[v] w fun e w' => (∃ r, e = .returned (.bool r) ∧ Hid (r = true ↔ mayL l)) ∧ Below w.heap.size w w' := by
  obtain ⟨ao, cap, rfl, _, rfl | ⟨b, off, rfl, hc⟩⟩ := h
  · go_enter Tryz.func6, Tryz.ntmps6
    go_wp2
    refine wp_loop_rounds 1 ?_
    rw [rounds_succ]
    go_wp2
    go_ret
    exact ⟨⟨_, rfl, ⟨fun _ j hj => absurd hj (Nat.not_lt_zero j), fun _ => rfl⟩⟩, Below.refl _ _⟩
  · exact rmsgs_core b off cap l _ w rfl hmx ht hc
end Go.Proofs.YtknbgnoahfeigaaGreatDoor.M
