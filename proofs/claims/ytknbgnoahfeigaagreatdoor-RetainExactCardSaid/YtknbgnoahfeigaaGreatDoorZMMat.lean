/- Proved here: the contracts of retain.checkFilter, retain.Match and of the page's Matches. Helper contracts. -/
import Derived.Test.YtknbgnoahfeigaaGreatDoorZMDrop
import Derived.Test.YtknbgnoahfeigaaGreatDoorZQRef3
namespace Go.Proofs.YtknbgnoahfeigaaGreatDoor.M
open Go.RowKit
set_option maxRecDepth 100000

/-- a filter without a group -/
def mayF (f : ByteArray) : Bool := decide (flt f.data.toList = some ([], f.data.toList))
theorem mayF_size {f : ByteArray} (h : mayF f = true) : f.size ≤ 65535 := by
  unfold mayF at h
  simp only [decide_eq_true_eq] at h
  by_cases hc : ck f.data.toList = 0
  · exact ck_size hc
  · unfold flt at h
    rw [if_neg hc] at h
    cases h
set_option maxHeartbeats 1000000 in
/-- Filter at a text that is too long -/
theorem filter_big (s : ByteArray) (w : World) (hs : s.size ≤ 140737488351232) (h7 : ¬ s.size ≤ 70000) :
    Calls Tryz.prog 52 #[.string s] w fun e w' => ∃ x, e = .returned (.tuple #[.string ByteArray.empty, .string ByteArray.empty, .iface 76 x]) ∧ Hid (ErrIs w' (.iface 76 x) 5) ∧ Below w.heap.size w w' := by
  have h1 : ck s.data.toList ≠ 0 := fun e => h7 (by have := ck_size e; omega)
  have HC : Hid (∀ w, Calls Tryz.prog 47 #[.string s] w fun e w' => ∃ b n, e = .returned (.iface 76 (.pointer (some ⟨b, 0, none⟩))) ∧ Hid (Er w' 1 (.iface 76 (.pointer (some ⟨b, 0, none⟩))) n ∧ (n = 1 ∨ n = 2)) ∧ Below w.heap.size w w') := by
    intro w
    refine (check_bad s (chk (sb s)) w (by omega) rfl h1).mono ?_
    rintro e w' ⟨rfl, rfl⟩
    refine ⟨_, chk (sb s), rfl, ⟨⟨_, _, rfl, by simp, rfl⟩, ?_⟩, fault_below _ w⟩
    rcases chk_cases (sb s) with h0 | h0
    · exact absurd h0 h1
    · exact h0
  clear h1 h7
  go_enter Tryz.func52, Tryz.ntmps52
  go_wp2_with (first
    | (go_at_call 47; refine ((unhide HC) _).mono ?_; rintro e w1 ⟨b, n, rfl, her, hb1⟩)
    | (go_at_call 48; refine (Go.Proofs.YtknbgnoahfeigaaGreatDoor.tfault 1 (by decide) _ n _ (unhide her).1 (unhide her).2).mono ?_; rintro e w3 ⟨x, rfl, hx, hb3⟩))
  go_returns
  exact ⟨_, rfl, hx, hb1.trans (hb3.mono hb1.size)⟩
set_option maxHeartbeats 1000000 in
theorem cf_yes (f : ByteArray) (w : World) (hm : Len w) (h : mayF f = true) : Calls Tryz.prog 36 #[.string f] w fun e w' => e = .returned .nilIface ∧ Below w.heap.size w w' := by
  have HF := hide (filter_yes f [] f.data.toList w (by have := mayF_size h; omega) hm (by unfold mayF at h; simpa using h))
  rw [show bt [] = ByteArray.empty from rfl] at HF
  go_enter Tryz.func36, Tryz.ntmps36
  go_wp2_with (go_at_call 52; refine (unhide HF).mono ?_; rintro e w1 ⟨rfl, hb1⟩)
  go_ret
  exact ⟨rfl, hb1⟩
set_option maxHeartbeats 1000000 in
theorem cf_err (f : ByteArray) (w : World) (h : Calls Tryz.prog 52 #[.string f] w fun e w' => ∃ x, e = .returned (.tuple #[.string ByteArray.empty, .string ByteArray.empty, .iface 76 x]) ∧ Hid (ErrIs w' (.iface 76 x) 5) ∧ Below w.heap.size w w') : Calls Tryz.prog 36 #[.string f] w fun e w' => ∃ x, e = .returned (.iface 76 x) ∧ Hid (Era w' (.iface 76 x) 5) ∧ Below w.heap.size w w' := by
  have HF := hide h
  clear h
  go_enter Tryz.func36, Tryz.ntmps36
  go_wp2_with (first
    | (go_at_call 52; refine (unhide HF).mono ?_; rintro e w1 ⟨x, rfl, hx, hb1⟩)
    | (go_at_call 30; refine (rfault_any 1 (by decide) _ 5 _ (er1 (unhide hx))).mono ?_; rintro e w3 ⟨y, rfl, hy, hb3⟩))
  go_ret
  exact ⟨_, rfl, hy, bnx hb1 hb3⟩
set_option maxHeartbeats 1000000 in
theorem cf_no (f : ByteArray) (w : World) (hm : Len w) (hs : f.size ≤ 140737488351232) (h : mayF f = false) : Calls Tryz.prog 36 #[.string f] w fun e w' => ∃ x, e = .returned (.iface 76 x) ∧ Hid (Era w' (.iface 76 x) 5) ∧ Below w.heap.size w w' := by
  by_cases h7 : f.size ≤ 70000
  · cases hfl : flt f.data.toList with
    | none => exact cf_err f w (filter_no f w h7 hm hfl)
    | some q =>
      obtain ⟨g, f'⟩ := q
      have HF := hide (filter_yes f g f' w h7 hm hfl)
      have hg : (bt g).toList.isEmpty = false := by
        cases hg : (bt g).toList.isEmpty
        · rfl
        · have hg0 : g = [] := empty_of hg
          subst hg0
          obtain rfl := flt_plain hfl
          unfold mayF at h
          rw [hfl] at h
          simp at h
      clear hfl h
      go_enter Tryz.func36, Tryz.ntmps36
      go_wp2_with (first
        | (go_at_call 52; refine (unhide HF).mono ?_; rintro e w1 ⟨rfl, hb1⟩)
        | (go_at_call 30; refine (rfault_n 5 _).mono ?_; rintro e w3 ⟨y, rfl, hy, hb3⟩))
      go_ret
      exact ⟨_, rfl, hy, bnx hb1 hb3⟩
  · exact cf_err f w (filter_big f w hs h7)
/-- what a filter finds -/
def fnd (f : ByteArray) (now : Int) (m : Mg) : Bool := mtc f.data.toList m.topic.data.toList && liv now m
theorem fnd_t {f : ByteArray} {now : Int} {u : Mg} (h1 : mtc f.data.toList u.topic.data.toList = true) (h2 : liv now u = true) : fnd f now u = true := by unfold fnd; rw [h1, h2]; rfl
theorem fnd_f1 {f : ByteArray} {now : Int} {u : Mg} (h1 : mtc f.data.toList u.topic.data.toList = false) : fnd f now u = false := by unfold fnd; rw [h1]; rfl
theorem fnd_f2 {f : ByteArray} {now : Int} {u : Mg} (h1 : liv now u = false) : fnd f now u = false := by unfold fnd; rw [h1, Bool.and_false]
theorem may_at {l : List Mg} (h : mayL l) (k : Nat) (hk : k < l.length) : isName (l.getD k mg0).topic.data.toList = true := by
  have := h k hk
  unfold okAt at this
  simp only [Bool.and_eq_true] at this
  exact this.1
theorem name_pos {s : ByteArray} (h : isName s.data.toList = true) : 0 < s.size := by
  unfold isName cnt at h
  simp only [Bool.and_eq_true, decide_eq_true_eq] at h
  have := h.2.1.1
  rcases Nat.eq_zero_or_pos s.size with h0 | h0
  · exfalso
    apply this
    have h2 := size_len s
    rw [h0] at h2
    exact List.length_eq_zero_iff.1 h2
  · exact h0
def MatchPost (l : List Mg) (f : ByteArray) (now : Int) (w : World) (e : Ending) (w' : World) : Prop := ((mayL l ∧ mayF f = true ∧ ∃ v qs, e = .returned (.tuple #[v, .nilIface]) ∧ Hid (OwnMs w' w.heap.size v qs ∧ qs.map (·.1) = l.filter (fnd f now))) ∨ (¬ mayL l ∧ ∃ x, e = .returned (.tuple #[.slice none 0 0, .iface 76 x]) ∧ Hid (Era w' (.iface 76 x) 1)) ∨ (mayL l ∧ mayF f = false ∧ ∃ x, e = .returned (.tuple #[.slice none 0 0, .iface 76 x]) ∧ Hid (Era w' (.iface 76 x) 5))) ∧ Below w.heap.size w w'
set_option maxHeartbeats 8000000 in
theorem match_core (b off cap : Nat) (l : List Mg) (f : ByteArray) (now : Int) (len : Nat) (w : World) (hlen : l.length = len) (hcap : len ≤ cap ∧ cap ≤ maxLen) (hmx : len ≤ 1000000000) (ht : TopOk l) (hl : MgAt w b off l) (hln : Len w) (hfs : f.size ≤ 140737488351232) :
    Calls Tryz.prog 14 #[.slice (some ⟨b, off, none⟩) len cap, .string f, .int .i64 now] w (MatchPost l f now w) := by
  obtain ⟨i0, hi, hz0, hz1, hz2⟩ := info_parts infoMsg
  have HCK : Hid (Calls Tryz.prog 28 #[.slice (some ⟨b, off, none⟩) len cap] w (CheckPost l w)) := check_any _ l w (by omega) ht ⟨_, _, by rw [hlen], by rw [hlen]; exact hcap, .inr ⟨b, off, rfl, hl⟩⟩
  have HL := hide hl
  have HLEN := hide hlen
  have HLN := hide hln
  have HFS := hide hfs
  clear hl ht hlen hcap hln hfs
  go_enter Tryz.func14, Tryz.ntmps14
  go_wp2_with fail
  refine (unhide HCK).mono ?_
  clear HCK
  rintro e w1 ⟨⟨hmay, rfl⟩ | ⟨hmay, x, rfl, hx⟩, hb1⟩
  · have HM := hide hmay
    have HB1 := hide hb1
    have HLN1 := hide ((unhide HLN).up hb1)
    clear hmay hb1
    cases hmf : mayF f
    · go_wp2_with (go_at_call 36; refine (cf_no f _ (unhide HLN1) (unhide HFS) hmf).mono ?_; rintro e w2 ⟨x, rfl, hx, hb2⟩)
      go_returns
      exact ⟨.inr (.inr ⟨unhide HM, hmf, x, rfl, hx⟩), bnx (unhide HB1) hb2⟩
    have hf7 : f.size ≤ 70000 := by have := mayF_size hmf; omega
    have HFL : Hid (flt f.data.toList = some ([], f.data.toList)) := by show _ = _; unfold mayF at hmf; simpa using hmf
    go_wp2_with (go_at_call 36; refine (cf_yes f _ (unhide HLN1) hmf).mono ?_; rintro e w2 ⟨rfl, hb2⟩)
    have HB2 := hide (bnx (unhide HB1) hb2)
    clear hb2
    go_loopw [10, 27] (fun v i wr => ∃ (k : Nat) (qs : List Mq), k ≤ len ∧ i = .int .i64 k ∧ Hid (OwnMs wr w.heap.size v qs) ∧ Hid (qs.map (·.1) = (l.take k).filter (fnd f now) ∧ qs.length ≤ k) ∧ Hid (Below w.heap.size w wr)) (fun _ i _ => len - (intOf i).toNat)
    case atStart => exact ⟨0, [], Nat.zero_le _, rfl, OwnMs.nil _ _, ⟨rfl, Nat.le_refl _⟩, unhide HB2⟩
    case round =>
      clear HB2 HB1
      obtain ⟨k, qs, hk, rfl, HOWN, HQ, HBEL⟩ := hrel
      by_cases hlt : k < len
      · have HLT : Hid (k < l.length) := by show _ < _; rw [unhide HLEN]; exact hlt
        obtain ⟨ao, c, ⟨h0, h1, h2, h3, h4, h5, h6⟩, hp⟩ := (unhide HL).below (unhide HBEL) k (unhide HLT)
        have HFI := hide (filt_snoc l (fnd f now) k (unhide HLT))
        have HNM := hide (may_at (unhide HM) k (unhide HLT))
        generalize l.getD k mg0 = u at h0 h1 h2 h3 h4 h5 h6 hp HFI HNM
        have HP := hide hp
        clear hp
        have hsz := (unhide HBEL).size
        have HQL := hide (unhide HQ).2
        have HMT := hide (fun W (hW : Below wr.heap.size wr W) => match_yes f u.topic W hf7 (by have := isName_size (unhide HNM); omega) (((unhide HLN).up (unhide HBEL)).up hW) (by unfold mayM; rw [unhide HFL, unhide HNM]; simp))
        go_wp2_with fail
        refine ((unhide HMT) _ ((Below.refl _ _).alloc (Nat.le_refl _) _)).mono ?_
        rintro e w2 ⟨rfl, hb2⟩
        obtain ⟨y0, y1, y2, y3, y4, y5, y6⟩ := box7 hb2
        have HB2 : Hid (Below wr.heap.size wr w2) := bnx ((Below.refl _ _).alloc (Nat.le_refl _) _) hb2
        have HBX := hide hb2
        clear hb2 h0 h1 h2 h3 h4 h5 h6 HMT
        have hsz2 := (unhide HB2).size
        cases hmt : mtc f.data.toList u.topic.data.toList
        · have HF2 := hide (FI.same (unhide HQ) (unhide HFI) (fnd_f1 hmt))
          have HO2 := hide ((unhide HOWN).below (unhide HB2))
          go_wp2
          go_roundw
          case rel => exact ⟨k + 1, qs, by omega, by go_num, HO2, HF2, bnx (unhide HBEL) (unhide HB2)⟩
          case measure => simp [intOf]; omega
        · go_wp2_with fail
          refine (lives_any u ao _ c now _).mono ?_
          rintro e w3 ⟨rfl, hb3⟩
          clear y0 y1 y2 y3 y4 y5 y6
          obtain ⟨y0, y1, y2, y3, y4, y5, y6⟩ := box7 (bnx (unhide HBX) hb3)
          have HB3 := hide (bnx (unhide HB2) hb3)
          have hsz3 := hb3.size
          clear hb3
          cases hv : liv now u
          · have HF2 := hide (FI.same (unhide HQ) (unhide HFI) (fnd_f2 hv))
            have HO2 := hide ((unhide HOWN).below (unhide HB3))
            go_wp2
            go_roundw
            case rel => exact ⟨k + 1, qs, by omega, by go_num, HO2, HF2, bnx (unhide HBEL) (unhide HB3)⟩
            case measure => simp [intOf]; omega
          · go_wp2_with (first
              | (go_at_call 39; refine (own_any u ao c _ ((unhide HP).below (unhide HB3))).mono ?_; rintro e w4 ⟨sv, rfl, HS, hb4⟩; obtain ⟨so, sc, rfl⟩ := owns_slice (unhide HS); have HO2 := hide ((unhide HOWN).below (bnx (unhide HB3) hb4)); have hsz4 := hb4.size; have HB4 := hide hb4; clear hb4)
              | (at_builtin; refine wpList_append_own _ rfl _ _ 23 rfl w.heap.size 26 i0 _ 7 96 Tryz.underlying23 hi hz0 hz1 hz2 rfl (by decide) _ _ _ rfl ((unhide HO2).row.alloc _) ⟨w4.heap.size, 0, none⟩ 1 1 (mcs u (.slice so u.props.length sc)) rfl rfl (seven_cell _ _ _ _ _ _ _ _ _) (seven_one _ _ _ _) (by have := unhide HQL; unfold maxLen; omega) (by have := unhide HQL; omega) (by simp; omega) ?_)
              | go_in)
            intro v' w5 hown' hgrow _
            have HB5 : Hid (Below w.heap.size w w5) := ((bnx (bnx (unhide HBEL) (unhide HB3)) (unhide HB4)).alloc (by omega) _).grown hgrow (by simp; omega) (fun k hk => ((unhide HO2).blk k hk).1)
            have HO4 := hide (own_one (unhide HO2) (unhide HS) (by omega) (unhide HP).2 hgrow hown')
            have HF2 := hide (FI.nxt (s := .slice so u.props.length sc) (unhide HQ) (unhide HFI) (fnd_t hmt hv))
            clear hgrow hown'
            go_wp2
            go_roundw
            case rel => exact ⟨k + 1, _, by omega, by go_num, HO4, HF2, HB5⟩
            case measure => simp [intOf]; omega
      · obtain rfl : k = len := by omega
        have HO1 : Hid (OwnMs wr w.heap.size u10 qs ∧ qs.map (·.1) = l.filter (fnd f now)) := by
          refine ⟨unhide HOWN, ?_⟩
          rw [(unhide HQ).1, List.take_of_length_le (Nat.le_of_eq (unhide HLEN))]
        go_wp2
        go_returns
        exact ⟨.inl ⟨unhide HM, hmf, _, _, rfl, HO1⟩, unhide HBEL⟩
  · have HM := hide hmay
    clear hmay
    go_wp2
    go_returns
    exact ⟨.inr (.inl ⟨unhide HM, x, rfl, hx⟩), hb1⟩
set_option maxHeartbeats 2000000 in
theorem match_nil (ao : Option Addr) (cap : Nat) (f : ByteArray) (now : Int) (w : World) (hcap : cap ≤ maxLen) (hln : Len w) (hfs : f.size ≤ 140737488351232) : Calls Tryz.prog 14 #[.slice ao 0 cap, .string f, .int .i64 now] w (MatchPost [] f now w) := by
  have HCK : Hid (Calls Tryz.prog 28 #[.slice ao 0 cap] w (CheckPost [] w)) := check_any _ [] w (by simp) (fun i hi => by simp at hi) ⟨_, _, rfl, ⟨Nat.zero_le _, hcap⟩, .inl rfl⟩
  have HLN := hide hln
  have HFS := hide hfs
  clear hln hfs
  go_enter Tryz.func14, Tryz.ntmps14
  go_wp2_with fail
  refine (unhide HCK).mono ?_
  clear HCK
  rintro e w1 ⟨⟨hmay, rfl⟩ | ⟨hmay, x, rfl, hx⟩, hb1⟩
  · have HM := hide hmay
    have HB1 := hide hb1
    have HLN1 := hide ((unhide HLN).up hb1)
    clear hmay hb1
    cases hmf : mayF f
    · go_wp2_with (go_at_call 36; refine (cf_no f _ (unhide HLN1) (unhide HFS) hmf).mono ?_; rintro e w2 ⟨x, rfl, hx, hb2⟩)
      go_returns
      exact ⟨.inr (.inr ⟨unhide HM, hmf, x, rfl, hx⟩), bnx (unhide HB1) hb2⟩
    go_wp2_with (go_at_call 36; refine (cf_yes f _ (unhide HLN1) hmf).mono ?_; rintro e w2 ⟨rfl, hb2⟩)
    refine wp_loop_rounds 1 ?_
    rw [rounds_succ]
    go_wp2
    go_returns
    exact ⟨.inl ⟨unhide HM, hmf, _, [], rfl, OwnMs.nil _ _, rfl⟩, bnx (unhide HB1) hb2⟩
  · exact absurd (fun j hj => absurd hj (Nat.not_lt_zero j)) hmay
theorem match_any (v : Value) (l : List Mg) (f : ByteArray) (now : Int) (w : World) (hmx : l.length ≤ 1000000000) (ht : TopOk l) (h : Mgs w v l) (hln : Len w) (hfs : f.size ≤ 140737488351232) : Calls Tryz.prog 14 #[v, .string f, .int .i64 now] w (MatchPost l f now w) := by
  obtain ⟨ao, cap, rfl, hcap, rfl | ⟨b, off, rfl, hc⟩⟩ := h
  · exact match_nil ao cap f now w hcap.2 hln hfs
  · exact match_core b off cap l f now _ w rfl hcap hmx ht hc hln hfs
set_option maxHeartbeats 8000000 in
theorem rmatches_core (b off cap : Nat) (l : List Mg) (f : ByteArray) (now : Int) (len : Nat) (w : World) (hlen : l.length = len) (hmx : len ≤ 1000000000) (hm : mayL l) (hf7 : f.size ≤ 70000) (hl : MgAt w b off l) :
    Calls Tryz.prog 10 #[.slice (some ⟨b, off, none⟩) len cap, .string f, .int .i64 now] w fun e w' => ∃ v qs, e = .returned v ∧ Hid (OwnMs w' w.heap.size v qs ∧ qs.map (·.1) = l.filter (fnd f now)) ∧ Below w.heap.size w w' := by
  obtain ⟨i0, hi, hz0, hz1, hz2⟩ := info_parts infoMsg
  have HL := hide hl
  have HLEN := hide hlen
  have HM := hide hm
  clear hl hlen hm
  go_enter Tryz.func10, Tryz.ntmps10
  go_wp2
  go_loopw [7, 8] (fun v i wr => ∃ (k : Nat) (qs : List Mq), k ≤ len ∧ i = .int .i64 k ∧ Hid (OwnMs wr w.heap.size v qs) ∧ Hid (qs.map (·.1) = (l.take k).filter (fnd f now) ∧ qs.length ≤ k) ∧ Hid (Below w.heap.size w wr)) (fun _ i _ => len - (intOf i).toNat)
  case atStart => exact ⟨0, [], Nat.zero_le _, rfl, OwnMs.nil _ _, ⟨rfl, Nat.le_refl _⟩, Below.refl _ _⟩
  case round =>
    obtain ⟨k, qs, hk, rfl, HOWN, HQ, HBEL⟩ := hrel
    by_cases hlt : k < len
    · have HLT : Hid (k < l.length) := by show _ < _; rw [unhide HLEN]; exact hlt
      obtain ⟨ao, c, hc, hp⟩ := (unhide HL).below (unhide HBEL) k (unhide HLT)
      have HFI := hide (filt_snoc l (fnd f now) k (unhide HLT))
      have HNM := hide (may_at (unhide HM) k (unhide HLT))
      generalize l.getD k mg0 = u at hc hp HFI HNM
      have HC := hide hc
      obtain ⟨h0, h1, h2, h3, h4, h5, h6⟩ := hc
      have HP := hide hp
      clear hp
      have hsz := (unhide HBEL).size
      have HQL := hide (unhide HQ).2
      have HMT := hide (fun W => rmatch_any f u.topic W hf7 (by have := isName_size (unhide HNM); omega) (name_pos (unhide HNM)))
      go_wp2_with fail
      refine (rlive_any u ao _ c now _).mono ?_
      rintro e w2 ⟨rfl, hb2⟩
      clear h0 h1 h2 h3 h4 h5 h6
      obtain ⟨h0, h1, h2, h3, h4, h5, h6⟩ := (unhide HC).below hb2
      have HB2 := hide hb2
      have hsz2 := hb2.size
      clear hb2
      cases hv : liv now u
      · have HF2 := hide (FI.same (unhide HQ) (unhide HFI) (fnd_f2 hv))
        have HO2 := hide ((unhide HOWN).below (unhide HB2))
        go_wp2
        go_roundw
        case rel => exact ⟨k + 1, qs, by omega, by go_num, HO2, HF2, bnx (unhide HBEL) (unhide HB2)⟩
        case measure => simp [intOf]; omega
      · go_wp2_with fail
        refine ((unhide HMT) _).mono ?_
        rintro e w3 ⟨rfl, hb3⟩
        clear h0 h1 h2 h3 h4 h5 h6
        obtain ⟨h0, h1, h2, h3, h4, h5, h6⟩ := ((unhide HC).below (unhide HB2)).below hb3
        have HB3 := hide (bnx (unhide HB2) hb3)
        have hsz3 := hb3.size
        clear hb3 HMT
        cases hmt : mtc f.data.toList u.topic.data.toList
        · have HF2 := hide (FI.same (unhide HQ) (unhide HFI) (fnd_f1 hmt))
          have HO2 := hide ((unhide HOWN).below (unhide HB3))
          go_wp2
          go_roundw
          case rel => exact ⟨k + 1, qs, by omega, by go_num, HO2, HF2, bnx (unhide HBEL) (unhide HB3)⟩
          case measure => simp [intOf]; omega
        · go_wp2_with (first
            | (go_at_call 13; refine (copym_any u ao c _ ((unhide HP).below (unhide HB3))).mono ?_; rintro e w4 ⟨sv, rfl, HS, hb4⟩; obtain ⟨so, sc, rfl⟩ := owns_slice (unhide HS); have HO2 := hide ((unhide HOWN).below (bnx (unhide HB3) hb4)); have hsz4 := hb4.size; have HB4 := hide hb4; clear hb4)
            | (at_builtin; refine wpList_append_own _ rfl _ _ 23 rfl w.heap.size 26 i0 _ 7 96 Tryz.underlying23 hi hz0 hz1 hz2 rfl (by decide) _ _ _ rfl ((unhide HO2).row.alloc _) ⟨w4.heap.size, 0, none⟩ 1 1 (mcs u (.slice so u.props.length sc)) rfl rfl (seven_cell _ _ _ _ _ _ _ _ _) (seven_one _ _ _ _) (by have := unhide HQL; unfold maxLen; omega) (by have := unhide HQL; omega) (by simp; omega) ?_)
            | go_in)
          intro v' w5 hown' hgrow _
          have HB5 : Hid (Below w.heap.size w w5) := ((bnx (bnx (unhide HBEL) (unhide HB3)) (unhide HB4)).alloc (by omega) _).grown hgrow (by simp; omega) (fun k hk => ((unhide HO2).blk k hk).1)
          have HO4 := hide (own_one (unhide HO2) (unhide HS) (by omega) (unhide HP).2 hgrow hown')
          have HF2 := hide (FI.nxt (s := .slice so u.props.length sc) (unhide HQ) (unhide HFI) (fnd_t hmt hv))
          clear hgrow hown'
          go_wp2
          go_roundw
          case rel => exact ⟨k + 1, _, by omega, by go_num, HO4, HF2, HB5⟩
          case measure => simp [intOf]; omega
    · obtain rfl : k = len := by omega
      have HO1 : Hid (OwnMs wr w.heap.size u7 qs ∧ qs.map (·.1) = l.filter (fnd f now)) := by
        refine ⟨unhide HOWN, ?_⟩
        rw [(unhide HQ).1, List.take_of_length_le (Nat.le_of_eq (unhide HLEN))]
      go_wp2
      go_ret
      exact ⟨_, _, rfl, HO1, unhide HBEL⟩
theorem rmatches_any (v : Value) (l : List Mg) (f : ByteArray) (now : Int) (w : World) (hmx : l.length ≤ 1000000000) (hm : mayL l) (hf7 : f.size ≤ 70000) (h : Mgs w v l) : Calls Tryz.prog 10 #[v, .string f, .int .i64 now] w fun e w' => ∃ v qs, e = .returned v ∧ Hid (OwnMs w' w.heap.size v qs ∧ qs.map (·.1) = l.filter (fnd f now)) ∧ Below w.heap.size w w' := by
  obtain ⟨ao, cap, rfl, hcap, rfl | ⟨b, off, rfl, hc⟩⟩ := h
  · go_enter Tryz.func10, Tryz.ntmps10
    go_wp2
    refine wp_loop_rounds 1 ?_
    rw [rounds_succ]
    go_wp2
    go_ret
    exact ⟨_, [], rfl, ⟨OwnMs.nil _ _, rfl⟩, Below.refl _ _⟩
  · exact rmatches_core b off cap l f now _ w rfl hmx hm hf7 hc
end Go.Proofs.YtknbgnoahfeigaaGreatDoor.M
