/- Proved here: prop.read reads the properties of which bytes are made, or tells an error around ErrForm. Helper contracts. -/
import Derived.Test.YtpfpollejhdbgaaDoorPGPlain
import Derived.Test.YtpfpollejhdbgaaDoorPEqP
namespace Go.Proofs.YtpfpollejhdbgaaDoor
open Go.RowKit
set_option maxRecDepth 100000

def lenOf : Value → Nat
  | .slice _ n _ => n
  | _ => 0
def ReadPost (place : Int) (l : List Int) (w : World) (e : Ending) (w' : World) : Prop :=
  (∃ q v, parse l = some q ∧ okTo place q q.length ∧ e = .returned (.tuple #[v, .int .i64 q.length, .nilIface]) ∧ Hid (w'.ownsRow w.heap.size 49 4 v (min q.length 32) (pcs (q.take 32))) ∧ Below w.heap.size w w') ∨
  (rdn place l = 1 ∧ ∃ E, e = .returned (.tuple #[.slice none 0 0, .int .i64 0, .iface 79 E]) ∧ Hid (ErrP w' (.iface 79 E) 1) ∧ Below w.heap.size w w')
theorem pcs_app (d : List Pr) (p : Pr) : pcs (d ++ [p]) = pcs d ++ [.int .i64 p.1, .int .i64 p.2.1, .string p.2.2.1, .string p.2.2.2] := by unfold pcs; simp
theorem okTo_snoc (place : Int) (d : List Pr) (p : Pr) (h : okTo place d d.length) (hp : okAt place (d ++ [p]) d.length = true) : okTo place (d ++ [p]) (d ++ [p]).length := by
  intro i hi
  rw [List.length_append, List.length_singleton] at hi
  rcases Nat.lt_or_ge i d.length with a | a
  · rw [okAt_app place d [p] i a]; exact h i a
  · obtain rfl : i = d.length := by omega
    exact hp
theorem prp_row {w w' : World} {R : Nat} {place : Int} {f g : Nat → Bool} (h : RowAt w R place f) (hb : Below w.heap.size w w') (e : ∀ j, j ≤ 42 → f j = g j) : RowAt w' R place g := (h.below hb).congr e
set_option maxHeartbeats 4000000 in
theorem read_any (v : Value) (l : List Int) (place : Int) (w : World) (h : Byt w v l) :
    Calls Tryd.prog 36 #[v, .int .i64 place] w (ReadPost place l w) := by
  obtain ⟨i0, hi, hz0, hz1, hz2⟩ := info_parts Tryd.infoProp
  obtain ⟨ao, cap, rfl, hc1, hc2⟩ := h.form
  unfold maxLen at hc2
  have HV := hide h
  clear h
  generalize hn : l.length = n at hc1 HV
  have HN := hide hn
  clear hn
  go_enter Tryd.func36, Tryd.ntmps36
  iterate 19 go_step
  refine wpList_value rfl (row_build _ _ _ _ _ _ place rfl _) ?_
  simp only [Act.put, List.setIfInBounds_toArray, List.set_cons_zero, List.set_cons_succ]
  refine wpList_value rfl (row_alloc _ _ _ _ _ _) ?_
  simp only [Act.put, List.setIfInBounds_toArray, List.set_cons_zero, List.set_cons_succ]
  refine wpList_skip rfl (row_store _ _ _ _ _ _ _ place _ rfl rfl) ?_
  simp only [Act.put]
  go_wp2
  have hR0 : Hid (RowAt (w.alloc (.cells (rowA place) 76)) w.heap.size place (fun _ => false)) := rowAt_new w place
  go_loopw [0, 4, 5] (fun b0 l0 c0 wr => ∃ (bv lv : Value) (rest : List Int) (d : List Pr) (k m : Nat), b0 = bv ∧ l0 = lv ∧ c0 = .int .i64 k ∧ m + k ≤ n ∧ Hid (d.length = k) ∧ Hid (rest.length = m) ∧ Hid (Byt w bv rest) ∧ Hid (parse l = (parse rest).map (d ++ ·)) ∧ Hid (okTo place d d.length) ∧ Hid (RowAt wr w.heap.size place (fun j => sn d j)) ∧ Hid (wr.ownsRow (w.heap.size + 1) 49 4 lv (min k 32) (pcs (d.take 32))) ∧ Below w.heap.size w wr) (fun b0 _ _ _ => lenOf b0)
  case atStart =>
    refine ⟨_, _, l, [], 0, n, rfl, rfl, rfl, by omega, rfl, unhide HN, unhide HV, ?_, okTo_zero _ _, (unhide hR0).congr (fun j _ => rfl), ?_, (Below.refl _ _).alloc (Nat.le_refl _) _⟩
    · show parse l = _
      cases parse l <;> simp
    · exact World.ownsRow_nil _ _ _ _
  case round =>
    obtain ⟨_, _, rest, d, k, m, rfl, rfl, rfl, hmk, HD, HM, HY, HP, HOK, HROW, HOWN, hbel⟩ := hrel
    clear hR0
    have hsz := hbel.size
    have hRl := (unhide HROW).lt
    obtain ⟨ao2, cap2, hu0, hcc1, hcc2⟩ := (unhide HY).form
    unfold maxLen at hcc2
    rw [unhide HM] at hu0 hcc1
    by_cases hm0 : m = 0
    · subst hu0
      subst hm0
      have HPA : Hid (parse l = some d) := by
        have hr0 : rest = [] := List.length_eq_zero_iff.1 (unhide HM)
        have := unhide HP
        rw [hr0, parse_nil] at this
        show parse l = some d
        simpa using this
      have HO2 : Hid (wr.ownsRow w.heap.size 49 4 u4 (min d.length 32) (pcs (d.take 32))) := by
        show World.ownsRow _ _ _ _ _ _ _
        rw [unhide HD]
        exact owns_mono (unhide HOWN) (by omega)
      have HDD : Hid ((k : Int) = (d.length : Int)) := by show _ = _; rw [unhide HD]
      go_wp2
      go_returns
      exact .inl ⟨d, _, unhide HPA, unhide HOK, by rw [← unhide HDD]; rfl, HO2, hbel⟩
    · have HNE : Hid (rest ≠ []) := by
        intro e
        have := unhide HM
        rw [e] at this
        simp at this
        omega
      have hbel' := hide hbel
      have HY' : Hid (Byt wr u0 rest) := (unhide HY).below hbel
      have HYW : Hid (Byt w u0 rest) := HY
      obtain ⟨b, off, cap3, hu1, -, -⟩ := (unhide HY).form1 (by rw [unhide HM]; omega)
      rw [hu0] at hu1
      simp only [Value.slice.injEq] at hu1
      obtain ⟨rfl, -, rfl⟩ := hu1
      subst hu0
      clear hbel HY
      cases hgk : gok rest
      · have HC : Hid (rdn place l = 1) := rdn_none place l (by rw [unhide HP, parse_no rest (unhide HNE) hgk]; rfl)
        have HGK := hide hgk
        clear hgk
        go_wp2_with fail
        refine (getOne_fail _ rest _ (unhide HY') (unhide HGK)).mono ?_
        rintro e w2 ⟨i2, n2, s2, t2, k2, ty2, x2, m2, rfl, hin2, hb2⟩
        have HB2 : Hid (Below w.heap.size w w2) := (unhide hbel').trans (hb2.mono hsz)
        have hs2 := (unhide HB2).size
        go_wp2_with fail
        refine (broken_use _ m2 _ ((unhide hin2).below ((Below.refl _ _).alloc (Nat.le_refl _) _))).mono ?_
        rintro e w4 ⟨E, rfl, hE, hb4⟩
        go_wp2
        go_returns
        exact .inr ⟨unhide HC, _, rfl, hE, ((unhide HB2).alloc hs2 _).trans (hb4.mono (by simp; omega))⟩
      · have hr := (unhide HY').range
        obtain ⟨hg1, hg2, hg3, hg4⟩ := gok_le rest hr hgk
        rw [unhide HM] at hg2
        have HTX := hide (gpr_txo rest hr hgk)
        have HPY := hide (parse_yes rest (unhide HNE) hr hgk)
        have HG1 := hide (getOne_good _ rest _ (unhide HY') hgk)
        clear hr hgk
        generalize hz : gsz rest = z at hg1 hg2 HPY HG1
        clear hz
        obtain ⟨id, N, s, t, hp⟩ : ∃ id N s t, gpr rest = (id, N, s, t) := ⟨_, _, _, _, rfl⟩
        have hid : id = gid rest := by have := congrArg Prod.fst hp; exact this.symm
        rw [← hid] at hg3 hg4
        rw [hp] at HTX HPY HG1
        clear hp hid
        have HP2 : Hid (parse l = (parse (rest.drop z)).map ((d ++ [(id, N, s, t)]) ++ ·)) := by
          show _ = _
          rw [unhide HP, unhide HPY, Option.map_map]
          congr 1
          funext x
          simp
        clear HPY HP
        go_wp2_with fail
        refine (unhide HG1).mono ?_
        rintro e w2 ⟨rfl, hb2⟩
        have HB2 : Hid (Below w.heap.size w w2) := (unhide hbel').trans (hb2.mono hsz)
        have hs2 := (unhide HB2).size
        have HROW2 : Hid (RowAt w2 w.heap.size place (fun j => sn d j)) := (unhide HROW).below hb2
        have HOWN2 : Hid (w2.ownsRow (w.heap.size + 1) 49 4 u4 (min k 32) (pcs (d.take 32))) := owns_below (unhide HOWN) hb2
        have hRl2 := (unhide HROW2).lt
        clear hb2 HROW HOWN HY' hbel' HG1
        have HOT := hide (okAt_mid place d [] (id, N, s, t))
        cases htk : tk place id N s t (sn d id)
        · have HC : Hid (rdn place l = 1) := rdn_bad place l _ d _ (unhide HP2) ((unhide HOT).trans (by simp only [htk, Bool.false_and]))
          have HTK := hide (tk_toNat (sn d) htk)
          clear htk HOT
          go_wp2_with fail
          refine (take_bad w.heap.size place id N s t (fun j => sn d j) _ ((unhide HROW2).below ((Below.refl _ _).alloc (Nat.le_refl _) _)) (unhide HTK)).mono ?_
          rintro e w3 ⟨E, rfl, hE, hb3⟩
          go_wp2
          go_returns
          exact .inr ⟨unhide HC, _, rfl, hE, ((unhide HB2).alloc hs2 _).trans (hb3.mono (by simp; omega))⟩
        · obtain ⟨hmst, hfit⟩ := tk_mst htk
          obtain ⟨hi1, hi2⟩ := id_range id place hmst
          obtain ⟨q, rfl⟩ : ∃ q : Nat, id = q := ⟨id.toNat, by omega⟩
          have HOKM : Hid (okAt place (d ++ [((q : Int), N, s, t)]) d.length = true) := (unhide HOT).trans (by simp only [htk, Bool.true_and]; exact (unhide HTX).1)
          have HOK2 : Hid (okTo place (d ++ [((q : Int), N, s, t)]) (d ++ [((q : Int), N, s, t)]).length) := okTo_snoc place d _ (unhide HOK) (unhide HOKM)
          have HTK := hide htk
          have HG : Hid (∀ j : Nat, j ≤ 42 → (sn d (j : Int) || decide (q = j)) = sn (d ++ [((q : Int), N, s, t)]) (j : Int)) := fun j _ => by
            rw [sn_snoc, show decide (((q : Int), N, s, t).1 = (j : Int)) = decide (q = j) from by rw [decide_eq_decide]; constructor <;> intro h <;> omega]
          clear htk hmst hfit HOT HOKM HOK
          go_wp2_with fail
          refine (take_use w.heap.size q place N s t (fun j => sn d j) (fun j => sn (d ++ [((q : Int), N, s, t)]) j) _ (by omega) ((unhide HROW2).below ((Below.refl _ _).alloc (Nat.le_refl _) _)) (unhide HTK) (unhide HG) w.heap.size (Nat.le_refl _)).mono ?_
          rintro e w3 ⟨rfl, HROW3, hb3, HOWT, HCT⟩
          have d0 : w3.cell? ⟨w2.heap.size, 0, none⟩ = some (.int .i64 (q : Int)) := ((unhide HCT) w2.heap.size 0 (by omega) (by simp)).trans (by simp)
          have d1 : w3.cell? ⟨w2.heap.size, 1, none⟩ = some (.int .i64 N) := ((unhide HCT) w2.heap.size 1 (by omega) (by simp)).trans (by simp)
          have d2 : w3.cell? ⟨w2.heap.size, 2, none⟩ = some (.string s) := ((unhide HCT) w2.heap.size 2 (by omega) (by simp)).trans (by simp)
          have d3 : w3.cell? ⟨w2.heap.size, 3, none⟩ = some (.string t) := ((unhide HCT) w2.heap.size 3 (by omega) (by simp)).trans (by simp)
          have HOWN3 : Hid (w3.ownsRow (w.heap.size + 1) 49 4 u4 (min k 32) (pcs (d.take 32))) := (unhide HOWT) _ _ _ _ _ _ (by omega) ((unhide HOWN2).alloc _)
          have HB3 : Hid (Below w.heap.size w w3) := ((unhide HB2).alloc hs2 _).trans hb3
          have hs3 : w.heap.size + 1 ≤ w3.heap.size := by have := (unhide HROW3).lt; omega
          clear hb3 HOWT HCT HOWN2 HROW2 HG HTK HB2
          have HLEN2 : Hid ((d ++ [((q : Int), N, s, t)]).length = k + 1) := by show _ = _; rw [List.length_append, unhide HD]; rfl
          by_cases h32 : k < 32
          · have HM1 : Hid (min k 32 = k) := Nat.min_eq_left (by omega)
            have HM2 : Hid (min (k + 1) 32 = k + 1) := Nat.min_eq_left (by omega)
            have HT1 : Hid (d.take 32 = d) := List.take_of_length_le (by rw [unhide HD]; omega)
            have HT2 : Hid ((d ++ [((q : Int), N, s, t)]).take 32 = d ++ [((q : Int), N, s, t)]) := List.take_of_length_le (by rw [unhide HLEN2]; omega)
            rw [unhide HM1, unhide HT1] at HOWN3
            go_wp2_with (first
              | (at_builtin; refine wpList_append_own _ rfl _ _ 23 rfl (w.heap.size + 1) 49 i0 _ 4 48 Tryd.underlying23 hi hz0 hz1 hz2 rfl (by decide) _ _ _ rfl ((unhide HOWN3).alloc _) ⟨w3.heap.size, 0, none⟩ 1 1 [.int .i64 (q : Int), .int .i64 N, .string s, .string t] rfl rfl (four_cell _ _ _ _ _ _) (four_one _ _ _ _) (by unfold maxLen; omega) (by omega) (by simp; omega) ?_)
              | go_in)
            intro v4 w4 hown4 hgrow4 _
            have HB4 : Hid (Below w.heap.size w w4) := ((unhide HB3).alloc (unhide HB3).size _).grown hgrow4 (by simp; omega) (fun g hg => by have := ((unhide HOWN3).lt g hg).1; omega)
            have HROW4 : Hid (RowAt w4 w.heap.size place (fun j => sn (d ++ [((q : Int), N, s, t)]) j)) := row_grown ((unhide HROW3).below ((Below.refl _ _).alloc (Nat.le_refl _) _)) hgrow4 (fun g hg => by have := ((unhide HOWN3).lt g hg).1; omega)
            have HOWN4 : Hid (w4.ownsRow (w.heap.size + 1) 49 4 v4 (min (k + 1) 32) (pcs ((d ++ [((q : Int), N, s, t)]).take 32))) := by
              show World.ownsRow _ _ _ _ _ _ _
              rw [unhide HM2, unhide HT2, pcs_app]
              exact hown4
            clear hown4 hgrow4 HOWN3 HROW3 d0 d1 d2 d3
            by_cases hcz : cap2 = z
            · have hm1 : m = cap2 := by omega
              have hm2 : m = z := by omega
              clear hcz
              subst hm1
              subst hm2
              have HBD : Hid (Byt w (.slice (some ⟨b, off, none⟩) 0 0) (rest.drop m)) := by
                show Byt _ _ _
                have := (unhide HYW).drop' m (Nat.le_refl _)
                rw [if_pos rfl, Nat.sub_self] at this
                exact this
              have HML : Hid ((rest.drop m).length = 0) := by show _ = _; rw [List.length_drop, unhide HM]; omega
              clear HYW HM
              go_wp2
              go_roundw
              case rel => exact ⟨_, _, _, _, k + 1, 0, rfl, rfl, by go_num, by omega, HLEN2, HML, HBD, HP2, HOK2, HROW4, HOWN4, unhide HB4⟩
              case measure => simp [lenOf]; omega
            · have HBD : Hid (Byt w (.slice (some ⟨b, off + z, none⟩) (m - z) (cap2 - z)) (rest.drop z)) := by
                show Byt _ _ _
                have := (unhide HYW).drop' z hg2
                rw [if_neg hcz] at this
                exact this
              have HML : Hid ((rest.drop z).length = m - z) := by show _ = _; rw [List.length_drop, unhide HM]
              clear HYW HM
              go_wp2
              go_roundw
              case rel => exact ⟨_, _, _, _, k + 1, m - z, rfl, rfl, by go_num, by omega, HLEN2, HML, HBD, HP2, HOK2, HROW4, HOWN4, unhide HB4⟩
              case measure => simp [lenOf]; omega
          · have HM1 : Hid (min k 32 = min (k + 1) 32) := by show _ = _; omega
            have HT1 : Hid (d.take 32 = (d ++ [((q : Int), N, s, t)]).take 32) := by show _ = _; rw [List.take_append_of_le_length (by rw [unhide HD]; omega)]
            rw [unhide HM1, unhide HT1] at HOWN3
            by_cases hcz : cap2 = z
            · have hm1 : m = cap2 := by omega
              have hm2 : m = z := by omega
              clear hcz
              subst hm1
              subst hm2
              have HBD : Hid (Byt w (.slice (some ⟨b, off, none⟩) 0 0) (rest.drop m)) := by
                show Byt _ _ _
                have := (unhide HYW).drop' m (Nat.le_refl _)
                rw [if_pos rfl, Nat.sub_self] at this
                exact this
              have HML : Hid ((rest.drop m).length = 0) := by show _ = _; rw [List.length_drop, unhide HM]; omega
              clear HYW HM
              go_wp2
              go_roundw
              case rel => exact ⟨_, _, _, _, k + 1, 0, rfl, rfl, by go_num, by omega, HLEN2, HML, HBD, HP2, HOK2, HROW3, HOWN3, unhide HB3⟩
              case measure => simp [lenOf]; omega
            · have HBD : Hid (Byt w (.slice (some ⟨b, off + z, none⟩) (m - z) (cap2 - z)) (rest.drop z)) := by
                show Byt _ _ _
                have := (unhide HYW).drop' z hg2
                rw [if_neg hcz] at this
                exact this
              have HML : Hid ((rest.drop z).length = m - z) := by show _ = _; rw [List.length_drop, unhide HM]
              clear HYW HM
              go_wp2
              go_roundw
              case rel => exact ⟨_, _, _, _, k + 1, m - z, rfl, rfl, by go_num, by omega, HLEN2, HML, HBD, HP2, HOK2, HROW3, HOWN3, unhide HB3⟩
              case measure => simp [lenOf]; omega
end Go.Proofs.YtpfpollejhdbgaaDoor
