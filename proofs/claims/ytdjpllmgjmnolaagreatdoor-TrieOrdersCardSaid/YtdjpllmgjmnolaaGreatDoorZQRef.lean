/- Proved here: contracts of the page's has and Levels. Helper contracts. -/
import Derived.Test.YtdjpllmgjmnolaaGreatDoorZQTop3
import Derived.Test.YtdjpllmgjmnolaaGreatDoorZTRefText
import Derived.Laws.AppendOwnNone
namespace Go.Proofs.YtdjpllmgjmnolaaGreatDoor
open Go.RowKit

theorem sg_take (s : ByteArray) (k : Nat) (h : k < s.size) : sg (s.data.toList.take (k + 1)) = (sg (s.data.toList.take k) || (decide ((s[k].toNat : Int) = 43) || decide ((s[k].toNat : Int) = 35))) := by
  have hk : k < s.data.toList.length := by rw [size_len]; exact h
  rw [List.take_succ_eq_append_getElem hk, sg_app]
  congr 1
  show (([s.data.toList[k]] : List UInt8).any fun b => b == 43 || b == 35) = _
  have e : s.data.toList[k] = s[k] := by simp; rfl
  rw [e]
  simp only [List.any_cons, List.any_nil, Bool.or_false]
  generalize s[k] = b
  have h1 : (b == 43) = decide ((b.toNat : Int) = 43) := by
    rw [Bool.eq_iff_iff, beq_iff_eq, decide_eq_true_eq, ← UInt8.toNat_inj]; simp; omega
  have h2 : (b == 35) = decide ((b.toNat : Int) = 35) := by
    rw [Bool.eq_iff_iff, beq_iff_eq, decide_eq_true_eq, ← UInt8.toNat_inj]; simp; omega
  rw [h1, h2]
set_option maxRecDepth 100000 in
set_option maxHeartbeats 1000000 in
theorem has_any (s : ByteArray) (w : World) (hs : s.size ≤ 70000) :
    Calls Tryz.prog 25 #[.string s, .int .u8 43, .int .u8 35] w fun e w' => e = .returned (.bool (sg s.data.toList)) ∧ w' = w := by
  have HT : Hid (s.data.toList.take s.size = s.data.toList) := by show _ = _; rw [← size_len, List.take_length]
  have HS := hide (sg_take s)
  generalize hD : s.data.toList = D at HT HS ⊢
  clear hD
  go_enter Tryz.func25, Tryz.ntmps25
  go_wp2
  go_loop [7] (fun i => ∃ k : Nat, k ≤ s.size ∧ i = .int .i64 k ∧ Hid (sg (D.take k) = false)) (fun i => s.size - (intOf i).toNat)
  case atStart => exact ⟨0, Nat.zero_le _, rfl, rfl⟩
  case round =>
    obtain ⟨k, hk, rfl, hno⟩ := hrel
    by_cases hlt : k < s.size
    · have hst := (unhide HS) k hlt
      rw [unhide hno, Bool.false_or] at hst
      have HST := hide hst
      clear hst
      by_cases h1 : (s[k].toNat : Int) = 43
      · have HR : Hid (sg D = true) := by
          show _ = _
          have e : sg (D.take (k + 1)) = true := by rw [unhide HST, decide_eq_true h1]; rfl
          rw [← List.take_append_drop (k + 1) D, sg_app, e]; rfl
        go_wp2
        go_ret
        exact ⟨by rw [unhide HR]; rfl, rfl⟩
      · have h1' : ((s[k].toNat : Int) == 43) = false := beq_eq_false_iff_ne.2 h1
        by_cases h2 : (s[k].toNat : Int) = 35
        · have HR : Hid (sg D = true) := by
            show _ = _
            have e : sg (D.take (k + 1)) = true := by rw [unhide HST, decide_eq_true h2]; simp
            rw [← List.take_append_drop (k + 1) D, sg_app, e]; rfl
          go_wp2
          go_ret
          exact ⟨by rw [unhide HR]; rfl, rfl⟩
        · have h2' : ((s[k].toNat : Int) == 35) = false := beq_eq_false_iff_ne.2 h2
          have HR : Hid (sg (D.take (k + 1)) = false) := by show _ = _; rw [unhide HST, decide_eq_false h1, decide_eq_false h2]; rfl
          clear h1 h2
          go_wp2
          go_round
          case rel => exact ⟨k + 1, by omega, by go_num, HR⟩
          case measure => simp [intOf] <;> omega
    · obtain rfl : k = s.size := by omega
      go_wp2
      go_ret
      exact ⟨by rw [← unhide HT, unhide hno]; rfl, rfl⟩

/-- how the page's loop over the levels goes -/
def LvInv (D : List UInt8) (sz k fr : Nat) (done : List (List UInt8)) : Prop :=
  (k ≤ sz ∧ fr ≤ k ∧ lvl D = done ++ lvl (D.drop fr) ∧ 47 ∉ (D.drop fr).take (k - fr)) ∨ (k = sz + 1 ∧ lvl D = done)
theorem take_more (D : List UInt8) (fr k : Nat) (h1 : fr ≤ k) (h2 : k < D.length) : (D.drop fr).take (k + 1 - fr) = (D.drop fr).take (k - fr) ++ [D[k]] := by
  have e : k + 1 - fr = (k - fr) + 1 := by omega
  rw [e, List.take_succ_eq_append_getElem (by rw [List.length_drop]; omega)]
  simp
  congr 1
  omega
theorem drop_cut (D : List UInt8) (fr k : Nat) (h1 : fr ≤ k) (h2 : k < D.length) : D.drop fr = (D.drop fr).take (k - fr) ++ D[k] :: D.drop (k + 1) := by
  have e : (D.drop fr).drop (k - fr) = D.drop k := by rw [List.drop_drop]; congr 1; omega
  have e2 : D.drop k = D[k] :: D.drop (k + 1) := List.drop_eq_getElem_cons h2
  rw [← e2, ← e, List.take_append_drop]
theorem LvInv.go {D : List UInt8} {k fr : Nat} {done : List (List UInt8)} (h : LvInv D D.length k fr done) (hk : k < D.length) (hne : D[k] ≠ 47) : LvInv D D.length (k + 1) fr done := by
  rcases h with ⟨h1, h2, h3, h4⟩ | ⟨h1, _⟩
  · refine .inl ⟨by omega, by omega, h3, ?_⟩
    rw [take_more D fr k h2 hk]
    intro hm
    rcases List.mem_append.1 hm with h | h
    · exact h4 h
    · simp at h; exact hne h.symm
  · omega
theorem LvInv.cut {D : List UInt8} {k fr : Nat} {done : List (List UInt8)} (h : LvInv D D.length k fr done) (hk : k < D.length) (he : D[k] = 47) : LvInv D D.length (k + 1) (k + 1) (done ++ [(D.drop fr).take (k - fr)]) := by
  rcases h with ⟨h1, h2, h3, h4⟩ | ⟨h1, _⟩
  · refine .inl ⟨by omega, by omega, ?_, by simp⟩
    rw [h3]
    have e := drop_cut D fr k h2 hk
    rw [he] at e
    rw [e, lvl_cut _ _ h4]
    have e2 : k - fr = ((D.drop fr).take (k - fr)).length := by rw [List.length_take, List.length_drop]; omega
    rw [List.take_append_of_le_length (by omega), List.take_take, Nat.min_self, List.append_assoc]
    rfl
  · omega
theorem LvInv.last {D : List UInt8} {fr : Nat} {done : List (List UInt8)} (h : LvInv D D.length D.length fr done) : LvInv D D.length (D.length + 1) (D.length + 1) (done ++ [(D.drop fr).take (D.length - fr)]) := by
  rcases h with ⟨h1, h2, h3, h4⟩ | ⟨h1, _⟩
  · refine .inr ⟨rfl, ?_⟩
    have e : (D.drop fr).take (D.length - fr) = D.drop fr := List.take_of_length_le (by rw [List.length_drop]; exact Nat.le_refl _)
    rw [e] at h4 ⊢
    rw [h3, lvl_none _ h4]
  · omega
theorem infoStr : (Tryz.prog.info? 9).map (fun i => (i.zero, i.size, i.bytes)) = some (some (.string ByteArray.empty), 1, 16) := by kernel_rfl
theorem one_str (x : ByteArray) : ∀ u ∈ [Value.string x], u.oneCell' = true := by
  intro u hu; simp at hu; subst hu; rfl
theorem ext_bt (s : ByteArray) (a b : Nat) : s.extract a b = bt ((s.data.toList.drop a).take (b - a)) := by
  apply ByteArray.ext
  apply Array.toList_inj.1
  rw [bt_data]
  exact Lib.extract_data s a b
set_option maxRecDepth 100000 in
set_option maxHeartbeats 2000000 in
theorem levels_any (s : ByteArray) (w : World) (hs : s.size ≤ 70000) :
    Calls Tryz.prog 26 #[.string s] w fun e w' => ∃ v, e = .returned v ∧ w'.ownsRow w.heap.size 9 1 v (lvB s).length ((lvB s).map Value.string) ∧ Below w.heap.size w w' := by
  obtain ⟨i0, hi, hz0, hz1, hz2⟩ := info_parts infoStr
  have HEX := hide (ext_bt s)
  have HLV : Hid (lvB s = (lvl s.data.toList).map bt) := rfl
  have HG : Hid (∀ k (h : k < s.size) (h' : k < s.data.toList.length), s.data.toList[k] = s[k]) := fun k h h' => by simp; rfl
  have HSL := hide (size_len s)
  generalize lvB s = LB at HLV ⊢
  go_enter Tryz.func26, Tryz.ntmps26
  go_wp2
  go_loopw [3, 4, 5] (fun m f i wr => ∃ (k fr : Nat) (done : List (List UInt8)), k ≤ s.size + 1 ∧ i = .int .i64 k ∧ f = .int .i64 fr ∧ fr ≤ k ∧ done.length ≤ k ∧ Hid (LvInv s.data.toList s.data.toList.length k fr done) ∧ wr.ownsRow w.heap.size 9 1 m done.length (done.map fun x => Value.string (bt x)) ∧ Below w.heap.size w wr) (fun _ _ i _ => s.size + 1 - (intOf i).toNat)
  case atStart => exact ⟨0, 0, [], by omega, rfl, rfl, Nat.le_refl _, Nat.zero_le _, .inl ⟨Nat.zero_le _, Nat.le_refl _, rfl, by simp⟩, World.ownsRow_nil _ _ _ _, Below.refl _ _⟩
  case round =>
    obtain ⟨k, fr, done, hk, rfl, rfl, hfk, hdl, hinv, hown, hbel⟩ := hrel
    have hx := (unhide HEX) fr k
    by_cases hlt : k < s.size
    · have hkD : k < s.data.toList.length := by rw [unhide HSL]; exact hlt
      have hDk := (unhide HG) k hlt hkD
      have hks : ((k : Int) == (s.size : Int)) = false := beq_eq_false_iff_ne.2 (by omega)
      obtain ⟨z, hz⟩ : ∃ z : UInt8, s[k]'hlt = z := ⟨_, rfl⟩
      rw [show s[k] = z from hz] at hDk
      by_cases h47 : z = 47
      · have hinv2 := hide ((unhide hinv).cut hkD (hDk.trans h47))
        generalize (s.data.toList.drop fr).take (k - fr) = y at hx hinv2
        have hzz : ((s[k].toNat : Int) == 47) = true := by rw [show s[k] = z from hz, h47]; rfl
        clear hinv hDk hz
        go_wp2_with (first
          | (at_builtin; refine wpList_append_own _ rfl _ _ 61 rfl w.heap.size 9 i0 (.string ByteArray.empty) 1 16 Tryz.underlying61 hi hz0 hz1 hz2 rfl (by decide) _ _ _ rfl (hown.alloc _) ⟨wr.heap.size, 0, none⟩ 1 1 [.string (bt y)] rfl rfl (one_cell _ _ _) (one_str _) (by unfold maxLen; omega) (by omega) (by have := hbel.size; simp; omega) ?_)
          | go_in)
        intro v' w1 hown' hgrow _
        have hb1 : Below w.heap.size w w1 := (hbel.alloc hbel.size _).grown hgrow (by have := hbel.size; simp; omega) (fun k hk => (hown.lt k hk).1)
        clear hgrow hown hbel
        go_wp2
        go_roundw
        case rel => exact ⟨k + 1, k + 1, done ++ [y], by omega, by go_num, by go_num, Nat.le_refl _, by simp; omega, hinv2, by rw [List.length_append, List.map_append]; exact hown', hb1⟩
        case measure => simp [intOf] <;> omega
      · have hinv2 := hide ((unhide hinv).go hkD (by rw [hDk]; exact h47))
        have hzz : ((s[k].toNat : Int) == 47) = false := by
          rw [show s[k] = z from hz, beq_eq_false_iff_ne]
          intro e
          exact h47 (by rw [← UInt8.toNat_inj]; simp; omega)
        clear hinv hDk hx hz
        go_wp2
        go_roundw
        case rel => exact ⟨k + 1, fr, done, by omega, by go_num, rfl, by omega, by omega, hinv2, hown, hbel⟩
        case measure => simp [intOf] <;> omega
    · by_cases heq : k = s.size
      · subst heq
        have hinv2 : Hid (LvInv s.data.toList s.data.toList.length (s.size + 1) (s.size + 1) (done ++ [(s.data.toList.drop fr).take (s.size - fr)])) := by
          have := unhide HSL
          have h2 := unhide hinv
          rw [← this] at h2 ⊢
          exact h2.last
        generalize (s.data.toList.drop fr).take (s.size - fr) = y at hx hinv2
        clear hinv
        go_wp2_with (first
          | (at_builtin; refine wpList_append_own _ rfl _ _ 61 rfl w.heap.size 9 i0 (.string ByteArray.empty) 1 16 Tryz.underlying61 hi hz0 hz1 hz2 rfl (by decide) _ _ _ rfl (hown.alloc _) ⟨wr.heap.size, 0, none⟩ 1 1 [.string (bt y)] rfl rfl (one_cell _ _ _) (one_str _) (by unfold maxLen; omega) (by omega) (by have := hbel.size; simp; omega) ?_)
          | go_in)
        intro v' w1 hown' hgrow _
        have hb1 : Below w.heap.size w w1 := (hbel.alloc hbel.size _).grown hgrow (by have := hbel.size; simp; omega) (fun k hk => (hown.lt k hk).1)
        clear hgrow hown hbel
        go_wp2
        go_roundw
        case rel => exact ⟨s.size + 1, s.size + 1, done ++ [y], by omega, by go_num, by go_num, Nat.le_refl _, by simp; omega, hinv2, by rw [List.length_append, List.map_append]; exact hown', hb1⟩
        case measure => simp [intOf] <;> omega
      · obtain rfl : k = s.size + 1 := by omega
        have hks : ¬ ((s.size + 1 : Nat) : Int) ≤ (s.size : Int) := by omega
        have hd : lvl s.data.toList = done := by
          rcases unhide hinv with ⟨h, _⟩ | ⟨_, h⟩
          · rw [unhide HSL] at h; omega
          · exact h
        have HE : Hid (LB = done.map bt) := by show _ = _; rw [unhide HLV, hd]
        clear hd
        go_wp2
        go_ret
        refine ⟨_, rfl, ?_, hbel⟩
        rw [unhide HE, List.length_map, List.map_map]
        exact hown
end Go.Proofs.YtdjpllmgjmnolaaGreatDoor
