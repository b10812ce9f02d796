/- Proved here: contracts of topic's parts and matches. Helper contracts. -/
import Derived.Test.YtdjpllmgjmnolaaGreatDoorZQTop
namespace Go.Proofs.YtdjpllmgjmnolaaGreatDoor
open Go.RowKit

theorem cut_le (l : List UInt8) : (Lib.cut l [47]).1.length ≤ l.length ∧ (Lib.cut l [47]).2.1.length ≤ l.length := by
  unfold Lib.cut
  split
  · simp; omega
  · simp
/-- parts' answer -/
def prtV (l : List UInt8) : Value := .tuple #[.string (bt (prt l).1), .string (bt (prt l).2.1), .bool (prt l).2.2]
theorem emptyL (s : ByteArray) : s.toList.isEmpty = decide (s.data.toList = []) := by
  rw [Lib.toList_data, Bool.eq_iff_iff, List.isEmpty_iff, decide_eq_true_eq]
set_option maxRecDepth 100000 in
set_option maxHeartbeats 2000000 in
theorem parts_any (s : ByteArray) (w : World) (hs : s.size ≤ 70000) (hm : Len w) :
    Calls Tryz.prog 41 #[.string s] w fun e w' => e = .returned (prtV s.data.toList) ∧ Below w.heap.size w w' := by
  have hcp : ∀ w, Calls Tryz.prog 60 #[.string s, .string (bt shr)] w fun e w' => e = .returned (.tuple #[.string (bt (Lib.trimPrefix s.data.toList shr)), .bool (Lib.hasPrefix s.data.toList shr)]) ∧ w' = w := fun w => Tryz.strings_CutPrefix s (bt shr) w
  cases hp : Lib.hasPrefix s.data.toList shr
  · have hpr : Hid (prtV s.data.toList = .tuple #[.string ByteArray.empty, .string s, .bool true]) := by
      show _ = _
      unfold prtV prt
      rw [if_neg (show ¬ shr.isPrefixOf s.data.toList = true by rw [show shr.isPrefixOf s.data.toList = false from hp]; simp)]
      rfl
    rw [hp] at hcp
    have HCP := hide hcp
    clear hcp
    generalize Lib.trimPrefix s.data.toList shr = tp at HCP
    go_enter Tryz.func41, Tryz.ntmps41
    go_wp2_with (go_at_call 60; refine ((unhide HCP) _).mono ?_; rintro e w' ⟨rfl, rfl⟩)
    go_returns
    exact ⟨by rw [unhide hpr]; rfl, Below.refl _ _⟩
  · have hpr : Hid (prtV s.data.toList = .tuple #[.string (bt (Lib.cut (s.data.toList.drop 7) [47]).1), .string (bt (Lib.cut (s.data.toList.drop 7) [47]).2.1), .bool (decide ((Lib.cut (s.data.toList.drop 7) [47]).1 ≠ []) && (!sg (Lib.cut (s.data.toList.drop 7) [47]).1 && !shr.isPrefixOf (Lib.cut (s.data.toList.drop 7) [47]).2.1))]) := by
      show _ = _
      unfold prtV prt
      rw [if_pos (show shr.isPrefixOf s.data.toList = true from hp)]
    have htp : Lib.trimPrefix s.data.toList shr = s.data.toList.drop 7 := by unfold Lib.trimPrefix; rw [if_pos hp]; rfl
    rw [hp, htp] at hcp
    have HCP := hide hcp
    obtain ⟨m, hm⟩ := hm
    have hlen : (s.data.toList.drop 7).length ≤ 70000 := by have := size_len s; rw [List.length_drop]; omega
    have hct := Tryz.strings_Cut (bt (s.data.toList.drop 7)) ⟨#[47]⟩ m w (by rw [bt_size]; omega) hm
    obtain ⟨hl1, hl2⟩ := cut_le (s.data.toList.drop 7)
    change Calls Tryz.prog 61 #[.string (bt (s.data.toList.drop 7)), .string ⟨#[47]⟩] w fun e w' => e = .returned (.tuple #[.string (bt (Lib.cut (s.data.toList.drop 7) [47]).1), .string (bt (Lib.cut (s.data.toList.drop 7) [47]).2.1), .bool (Lib.cut (s.data.toList.drop 7) [47]).2.2]) ∧ ∃ n, w' = w.drewN n at hct
    have HCT := hide hct
    clear hcp hct hp htp hm
    generalize s.data.toList.drop 7 = rest at *
    generalize (Lib.cut rest [47]).1 = g at *
    generalize (Lib.cut rest [47]).2.1 = f at *
    generalize (Lib.cut rest [47]).2.2 = ok at *
    have hgz : (bt g).size ≤ 70000 := by rw [bt_size]; omega
    have HPF := hide (Tryz.strings_HasPrefix (bt f) (bt shr))
    cases h0 : (bt g).toList.isEmpty
    · have h0' : g ≠ [] := ne_of h0
      cases h1 : sg g
      · have hz : Hid ((decide (g ≠ []) && (!sg g && !shr.isPrefixOf f)) = !Lib.hasPrefix (bt f).data.toList (bt shr).data.toList) := by
          show _ = _
          rw [decide_eq_true h0', h1]; rfl
        clear h0'
        go_enter Tryz.func41, Tryz.ntmps41
        go_wp2_with (first
          | (go_at_call 60; refine ((unhide HCP) _).mono ?_; rintro e w' ⟨rfl, rfl⟩)
          | (go_at_call 61; refine (unhide HCT).mono ?_; rintro e w1 ⟨rfl, n1, rfl⟩)
          | (go_at_call 47; refine (containsAny_any (bt g) _ (by omega)).mono ?_; rintro e w2 ⟨rfl, hb2⟩; rw [bt_data, h1])
          | (go_at_call 62; refine ((unhide HPF) _).mono ?_; rintro e w3 ⟨rfl, rfl⟩))
        go_returns
        exact ⟨by rw [unhide hpr, unhide hz]; rfl, (below_drewN (Below.refl _ _) n1).trans hb2⟩
      · have hz : Hid ((decide (g ≠ []) && (!sg g && !shr.isPrefixOf f)) = false) := by
          show _ = _
          rw [h1]; simp
        clear h0'
        go_enter Tryz.func41, Tryz.ntmps41
        go_wp2_with (first
          | (go_at_call 60; refine ((unhide HCP) _).mono ?_; rintro e w' ⟨rfl, rfl⟩)
          | (go_at_call 61; refine (unhide HCT).mono ?_; rintro e w1 ⟨rfl, n1, rfl⟩)
          | (go_at_call 47; refine (containsAny_any (bt g) _ (by omega)).mono ?_; rintro e w2 ⟨rfl, hb2⟩; rw [bt_data, h1])
          | (go_at_call 62; refine ((unhide HPF) _).mono ?_; rintro e w3 ⟨rfl, rfl⟩))
        go_returns
        exact ⟨by rw [unhide hpr, unhide hz]; rfl, (below_drewN (Below.refl _ _) n1).trans hb2⟩
    · have h0' : g = [] := empty_of h0
      have hz : Hid ((decide (g ≠ []) && (!sg g && !shr.isPrefixOf f)) = false) := by
        show _ = _
        rw [h0']; rfl
      clear h0'
      go_enter Tryz.func41, Tryz.ntmps41
      go_wp2_with (first
          | (go_at_call 60; refine ((unhide HCP) _).mono ?_; rintro e w' ⟨rfl, rfl⟩)
          | (go_at_call 61; refine (unhide HCT).mono ?_; rintro e w1 ⟨rfl, n1, rfl⟩))
      go_returns
      exact ⟨by rw [unhide hpr, unhide hz]; rfl, below_drewN (Below.refl _ _) n1⟩

theorem mat_nil1 (f : List UInt8) (fs : List (List UInt8)) (e : f ≠ [35]) : mat (f :: fs) [] = false := by unfold mat; rw [if_neg e]
theorem mat_cons1 (f n : List UInt8) (fs ns : List (List UInt8)) (e : f ≠ [35]) : mat (f :: fs) (n :: ns) = ((decide (f = [43]) || decide (f = n)) && mat fs ns) := by rw [mat, if_neg e]
theorem mat_hash1 (fs ns : List (List UInt8)) : mat ([35] :: fs) ns = true := by unfold mat; rw [if_pos rfl]
theorem getD_lt (l : List (List UInt8)) (k : Nat) (h : k < l.length) : l.drop k = l.getD k [] :: l.drop (k + 1) := by
  rw [List.drop_eq_getElem_cons h, List.getD_eq_getElem?_getD, List.getElem?_eq_getElem h]; rfl
theorem mat_hash (F N : List (List UInt8)) (k : Nat) (h : k < F.length) (e : F.getD k [] = [35]) : mat (F.drop k) (N.drop k) = true := by
  rw [getD_lt F k h, e, mat_hash1]
theorem mat_short (F N : List (List UInt8)) (k : Nat) (h : k < F.length) (e : F.getD k [] ≠ [35]) (hn : k = N.length) : mat (F.drop k) (N.drop k) = false := by
  rw [getD_lt F k h, hn, List.drop_length, mat_nil1 _ _ (by rw [← hn]; exact e)]
theorem mat_step (F N : List (List UInt8)) (k : Nat) (h : k < F.length) (e : F.getD k [] ≠ [35]) (hn : k < N.length) : mat (F.drop k) (N.drop k) = ((decide (F.getD k [] = [43]) || decide (F.getD k [] = N.getD k [])) && mat (F.drop (k + 1)) (N.drop (k + 1))) := by
  rw [getD_lt F k h, getD_lt N k hn, mat_cons1 _ _ _ _ e]
theorem mat_end (F N : List (List UInt8)) (h : F.length ≤ N.length) : mat (F.drop F.length) (N.drop F.length) = decide (F.length = N.length) := by
  rw [List.drop_length, mat, Bool.eq_iff_iff, List.isEmpty_iff_length_eq_zero, List.length_drop, decide_eq_true_eq]
  omega
theorem headD_getD (l : List (List UInt8)) : l.headD [] = l.getD 0 [] := by cases l <;> rfl
/-- the bytes of texts in a row -/
def bys (l : List ByteArray) : List (List UInt8) := l.map (·.data.toList)
theorem bys_len (l : List ByteArray) : (bys l).length = l.length := List.length_map _
theorem bys_get (l : List ByteArray) (k : Nat) : (bys l).getD k [] = (l.getD k ByteArray.empty).data.toList := by
  unfold bys
  rw [List.getD_eq_getElem?_getD, List.getElem?_map, List.getD_eq_getElem?_getD]
  cases l[k]? <;> rfl
theorem bys_lvB (s : ByteArray) : bys (lvB s) = lvl s.data.toList := by
  unfold bys lvB
  rw [List.map_map]
  have : ((fun x : ByteArray => x.data.toList) ∘ bt) = id := by funext l; rfl
  rw [this, List.map_id]
/-- the answer of matches -/
def mres (F N : List (List UInt8)) : Bool := !hid F N && mat F N
theorem beq_strs (x y : ByteArray) : (x.toList == y.toList) = decide (x.data.toList = y.data.toList) := by
  rw [Lib.toList_data, Lib.toList_data, Bool.eq_iff_iff, beq_iff_eq, decide_eq_true_eq]

set_option maxRecDepth 100000 in
set_option maxHeartbeats 2000000 in
theorem mloop (bf off1 cap1 bn off2 cap2 nf nn : Nat) (F N : List ByteArray) (w : World) (hf1 : F.length = nf) (hn1 : N.length = nn) (h1 : 1 ≤ nf) (h2 : 1 ≤ nn) (hc1 : nf ≤ cap1) (hc2 : nn ≤ cap2) (hb1 : nf ≤ 70001) (hb2 : nn ≤ 70001)
    (hF : ∀ j, j < nf → w.cell? ⟨bf, off1 + j, none⟩ = some (.string (F.getD j ByteArray.empty))) (hN : ∀ j, j < nn → w.cell? ⟨bn, off2 + j, none⟩ = some (.string (N.getD j ByteArray.empty))) :
    Calls Tryz.prog 43 #[.slice (some ⟨bf, off1, none⟩) nf cap1, .slice (some ⟨bn, off2, none⟩) nn cap2] w fun e w' => e = .returned (.bool (mres (bys F) (bys N))) ∧ w' = w := by
  have hF0 := hF 0 (by omega)
  have hN0 := hN 0 (by omega)
  rw [Nat.add_zero] at hF0 hN0
  have HP := hide (Tryz.strings_HasPrefix (N.getD 0 ByteArray.empty) ⟨#[36]⟩ w)
  have HH : Hid (hid (bys F) (bys N) = (Lib.hasPrefix (N.getD 0 ByteArray.empty).data.toList [36] && (decide ((F.getD 0 ByteArray.empty).data.toList = [43]) || decide ((F.getD 0 ByteArray.empty).data.toList = [35])))) := by
    show _ = _
    unfold hid
    rw [headD_getD, headD_getD, bys_get, bys_get]
  have HFC := hide hF
  have HNC := hide hN
  clear hF hN
  generalize hf0 : F.getD 0 ByteArray.empty = f0 at hF0 HH
  generalize hn0 : N.getD 0 ByteArray.empty = n0 at hN0 HH HP
  clear hf0 hn0
  generalize hH : hid (bys F) (bys N) = H at HH
  have HM : Hid (mres (bys F) (bys N) = (!H && mat (bys F) (bys N))) := by show _ = _; unfold mres; rw [hH]
  clear hH
  have HL1 : Hid ((bys F).length = nf) := by show _ = _; rw [bys_len, hf1]
  have HL2 : Hid ((bys N).length = nn) := by show _ = _; rw [bys_len, hn1]
  have HG1 := hide (bys_get F)
  have HG2 := hide (bys_get N)
  clear hf1 hn1
  generalize bys F = FL at HM HL1 HG1 ⊢
  generalize bys N = NL at HM HL2 HG2 ⊢
  generalize mres FL NL = res at HM ⊢
  have key : ∀ (P : Prop), (Hid (H = false) → P) → (Hid (H = true) → P) → P := fun P a b => by cases hh : H with | false => exact a hh | true => exact b hh
  obtain ⟨hp, hpe⟩ : ∃ b, Lib.hasPrefix n0.data.toList [36] = b := ⟨_, rfl⟩
  have HP2 : Hid (∀ w, Calls Tryz.prog 62 #[.string n0, .string ⟨#[36]⟩] w fun e w' => e = .returned (.bool hp) ∧ w' = w) := fun w => by rw [← hpe]; exact Tryz.strings_HasPrefix n0 ⟨#[36]⟩ w
  rw [hpe] at HH
  clear HP hpe key
  have hh : (H = false ∧ (hp = false ∨ (hp = true ∧ (f0.toList == [43]) = false ∧ (f0.toList == [35]) = false))) ∨ (H = true ∧ hp = true ∧ ((f0.toList == [43]) = true ∨ ((f0.toList == [43]) = false ∧ (f0.toList == [35]) = true))) := by
    have e1 : (f0.toList == [43]) = decide (f0.data.toList = [43]) := by rw [Lib.toList_data, Bool.eq_iff_iff, beq_iff_eq, decide_eq_true_eq]
    have e2 : (f0.toList == [35]) = decide (f0.data.toList = [35]) := by rw [Lib.toList_data, Bool.eq_iff_iff, beq_iff_eq, decide_eq_true_eq]
    rw [e1, e2, unhide HH]
    generalize decide (f0.data.toList = [43]) = x
    generalize decide (f0.data.toList = [35]) = y
    cases hp <;> cases x <;> cases y <;> simp
  clear HH
  rcases hh with ⟨rfl, rfl | ⟨rfl, h43, h35⟩⟩ | ⟨rfl, rfl, h43 | ⟨h43, h35⟩⟩
  case inr.inl | inr.inr =>
    go_enter Tryz.func43, Tryz.ntmps43
    go_wp2_with (go_at_call 62; refine ((unhide HP2) _).mono ?_; rintro e w' ⟨rfl, rfl⟩)
    go_ret
    exact ⟨by rw [unhide HM]; rfl, rfl⟩
  all_goals
    have HM2 : Hid (res = mat FL NL) := unhide HM
    clear HM
    go_enter Tryz.func43, Tryz.ntmps43
    go_wp2_with (go_at_call 62; refine ((unhide HP2) _).mono ?_; rintro e w' ⟨rfl, rfl⟩)
    clear HP2
    go_wp2
    go_loop [25] (fun i => ∃ k : Nat, k ≤ nf ∧ k ≤ nn ∧ i = .int .i64 k ∧ Hid (res = mat (FL.drop k) (NL.drop k))) (fun i => nf - (intOf i).toNat)
    case atStart => exact ⟨0, by omega, by omega, rfl, unhide HM2⟩
    case round =>
      obtain ⟨k, hk1, hk2, rfl, hres⟩ := hrel
      clear HM2
      by_cases hlt : k < nf
      · have hfk := (unhide HFC) k hlt
        have hg1 := (unhide HG1) k
        generalize F.getD k ByteArray.empty = x at hfk hg1
        have hL1 := unhide HL1
        have hL2 := unhide HL2
        cases hx : (x.toList == [35])
        · have hne : FL.getD k [] ≠ [35] := by rw [hg1]; exact isnt_of hx
          by_cases hkn : k = nn
          · have hr : Hid (res = false) := by show _ = _; rw [unhide hres]; exact mat_short FL NL k (by omega) hne (by omega)
            subst hkn
            clear hL1 hL2 hg1 hne
            go_wp2
            go_ret
            exact ⟨by rw [unhide hr]; rfl, rfl⟩
          · have hkb : ((k : Int) == (nn : Int)) = false := beq_eq_false_iff_ne.2 (by omega)
            have hkl : k < nn := by omega
            have hnk := (unhide HNC) k hkl
            have hg2 := (unhide HG2) k
            generalize N.getD k ByteArray.empty = y at hnk hg2
            have hst := mat_step FL NL k (by omega) hne (by omega)
            have e1 : decide (FL.getD k [] = [43]) = (x.toList == [43]) := by rw [hg1, Lib.toList_data, Bool.eq_iff_iff, beq_iff_eq, decide_eq_true_eq]
            have e2 : decide (FL.getD k [] = NL.getD k []) = (x.toList == y.toList) := by rw [hg1, hg2, beq_strs]
            rw [e1, e2, ← unhide hres] at hst
            have HST := hide hst
            clear hst e1 e2 hg1 hg2 hL1 hL2 hne hkn
            cases hx2 : (x.toList == [43])
            · cases hxy : (x.toList == y.toList)
              · rw [hx2, hxy] at HST
                go_wp2
                go_ret
                exact ⟨by rw [unhide HST]; rfl, rfl⟩
              · rw [hx2, hxy] at HST
                go_wp2
                go_round
                case rel => exact ⟨k + 1, by omega, by omega, by go_num, unhide HST⟩
                case measure => simp [intOf]; omega
            · rw [hx2] at HST
              go_wp2
              go_round
              case rel => exact ⟨k + 1, by omega, by omega, by go_num, unhide HST⟩
              case measure => simp [intOf]; omega
        · have hr : Hid (res = true) := by show _ = _; rw [unhide hres]; exact mat_hash FL NL k (by omega) (by rw [hg1]; exact is_of hx)
          clear hL1 hL2 hg1
          go_wp2
          go_ret
          exact ⟨by rw [unhide hr]; rfl, rfl⟩
      · obtain rfl : k = nf := by omega
        have hr : Hid (res = decide ((k : Int) = (nn : Int))) := by
          show _ = _
          have hL1 := unhide HL1
          have hL2 := unhide HL2
          have := mat_end FL NL (by omega)
          rw [hL1, hL2] at this
          rw [unhide hres, this]
          exact decide_eq_decide.2 (by omega)
        go_wp2
        go_ret
        exact ⟨by rw [unhide hr]; rfl, rfl⟩
end Go.Proofs.YtdjpllmgjmnolaaGreatDoor
