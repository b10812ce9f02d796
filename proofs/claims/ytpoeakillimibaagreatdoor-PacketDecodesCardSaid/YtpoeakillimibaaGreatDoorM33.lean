/- Proved here: helpers, one text behind the other. -/
import Derived.Test.YtpoeakillimibaaGreatDoorZPGPlain
import Derived.Test.YtpoeakillimibaaGreatDoorM21
import Derived.Test.YtpoeakillimibaaGreatDoorM28
import Derived.Test.YtpoeakillimibaaGreatDoorM17
import Derived.Test.YtpoeakillimibaaGreatDoorM26
import Derived.Test.YtpoeakillimibaaGreatDoorZKTk
import Derived.Test.YtpoeakillimibaaGreatDoorZTCopy
import Derived.Test.YtpoeakillimibaaGreatDoorM14
import Derived.Test.YtpoeakillimibaaGreatDoorM30
/- Proved here: prop.read reads the properties of which bytes are made, or tells an error around ErrForm. Helper contracts. -/
namespace Go.Proofs.YtpoeakillimibaaGreatDoor
open Go.RowKit
set_option maxRecDepth 100000

def lenOf : Value → Nat
  | .slice _ n _ => n
  | _ => 0
def ReadPost (place : Int) (l : List Int) (w : World) (e : Ending) (w' : World) : Prop :=
  (∃ q v, parse l = some q ∧ okTo place q q.length ∧ e = .returned (.tuple #[v, .int .i64 q.length, .nilIface]) ∧ Hid (w'.ownsRow w.heap.size 120 4 v (min q.length 32) (pcs (q.take 32))) ∧ Below w.heap.size w w') ∨
  (rdn place l = 1 ∧ ∃ E, e = .returned (.tuple #[.slice none 0 0, .int .i64 0, .iface 149 E]) ∧ Hid (ErrP w' (.iface 149 E) 1) ∧ Below w.heap.size w w')
theorem pcs_app (d : List Pr) (p : Pr) : pcs (d ++ [p]) = pcs d ++ [.int .i64 p.1, .int .i64 p.2.1, .string p.2.2.1, .string p.2.2.2] := by unfold pcs; simp
theorem okTo_snoc (place : Int) (d : List Pr) (p : Pr) (h : okTo place d d.length) (hp : okAt place (d ++ [p]) d.length = true) : okTo place (d ++ [p]) (d ++ [p]).length := by
  intro i hi
  rw [List.length_append, List.length_singleton] at hi
  rcases Nat.lt_or_ge i d.length with a | a
  · rw [okAt_app place d [p] i a]; exact h i a
  · obtain rfl : i = d.length := by omega
    exact hp
set_option maxHeartbeats 4000000 in
theorem read_any (v : Value) (l : List Int) (place : Int) (w : World) (h : Byt w v l) :
    Calls Tryz.prog 194 #[v, .int .i64 place] w (ReadPost place l w) := by
  obtain ⟨i0, hi, hz0, hz1, hz2⟩ := info_parts Tryz.infoProp
  obtain ⟨ao, cap, rfl, hc1, hc2⟩ := h.form
  unfold maxLen at hc2
  have HV := hide h
  clear h
  generalize hn : l.length = n at hc1 HV
  have HN := hide hn
  clear hn
  go_enter Tryz.func194, Tryz.ntmps194
  iterate 19 go_step
  refine wpList_value rfl (row_build _ _ _ _ _ _ place rfl _) ?_
  simp only [Act.put, List.setIfInBounds_toArray, List.set_cons_zero, List.set_cons_succ]
  refine wpList_value rfl (row_alloc _ _ _ _ _ _) ?_
  simp only [Act.put, List.setIfInBounds_toArray, List.set_cons_zero, List.set_cons_succ]
  refine wpList_skip rfl (row_store _ _ _ _ _ _ _ place _ rfl rfl) ?_
  simp only [Act.put]
  go_wp2
  have hR0 : Hid (RowAt (w.alloc (.cells (rowA place) 235)) w.heap.size place (fun _ => false)) := rowAt_new w place
  go_loopw [0, 4, 5] (fun b0 l0 c0 wr => ∃ (bv lv : Value) (rest : List Int) (d : List Pr) (k m : Nat), b0 = bv ∧ l0 = lv ∧ c0 = .int .i64 k ∧ m + k ≤ n ∧ Hid (d.length = k) ∧ Hid (rest.length = m) ∧ Hid (Byt w bv rest) ∧ Hid (parse l = (parse rest).map (d ++ ·)) ∧ Hid (okTo place d d.length) ∧ Hid (RowAt wr w.heap.size place (fun j => sn d j)) ∧ Hid (wr.ownsRow (w.heap.size + 1) 120 4 lv (min k 32) (pcs (d.take 32))) ∧ Below w.heap.size w wr) (fun b0 _ _ _ => lenOf b0)
  case atStart =>
    refine ⟨_, _, l, [], 0, n, rfl, rfl, rfl, by omega, rfl, unhide HN, unhide HV, ?_, okTo_zero _ _, (unhide hR0).congr (fun j _ => rfl), ?_, (Below.refl _ _).alloc (Nat.le_refl _) _⟩
    · show parse l = _
      cases parse l <;> simp
    · exact World.ownsRow_nil _ _ _ _
  case round =>
    obtain ⟨_, _, rest, d, k, m, rfl, rfl, rfl, hmk, HD, HM, HY, HP, HOK, HROW, HOWN, hbel⟩ := hrel
    clear hR0
    have hsz := hbel.size
    have hRl := (unhide HROW).lt
    obtain ⟨ao2, cap2, hu0, hcc1, hcc2⟩ := (unhide HY).form
    unfold maxLen at hcc2
    rw [unhide HM] at hu0 hcc1
    by_cases hm0 : m = 0
    · subst hu0
      subst hm0
      have HPA : Hid (parse l = some d) := by
        have hr0 : rest = [] := List.length_eq_zero_iff.1 (unhide HM)
        have := unhide HP
        rw [hr0, parse_nil] at this
        show parse l = some d
        simpa using this
      have HO2 : Hid (wr.ownsRow w.heap.size 120 4 u4 (min d.length 32) (pcs (d.take 32))) := by
        show World.ownsRow _ _ _ _ _ _ _
        rw [unhide HD]
        exact owns_mono (unhide HOWN) (by omega)
      have HDD : Hid ((k : Int) = (d.length : Int)) := by show _ = _; rw [unhide HD]
      go_wp2
      go_returns
      exact .inl ⟨d, _, unhide HPA, unhide HOK, by rw [← unhide HDD]; rfl, HO2, hbel⟩
    · have HNE : Hid (rest ≠ []) := by
        intro e
        have := unhide HM
        rw [e] at this
        simp at this
        omega
      have hbel' := hide hbel
      have HY' : Hid (Byt wr u0 rest) := (unhide HY).below hbel
      have HYW : Hid (Byt w u0 rest) := HY
      obtain ⟨b, off, cap3, hu1, -, -⟩ := (unhide HY).form1 (by rw [unhide HM]; omega)
      rw [hu0] at hu1
      simp only [Value.slice.injEq] at hu1
      obtain ⟨rfl, -, rfl⟩ := hu1
      subst hu0
      clear hbel HY
      cases hgk : gok rest
      · have HC : Hid (rdn place l = 1) := rdn_none place l (by rw [unhide HP, parse_no rest (unhide HNE) hgk]; rfl)
        have HGK := hide hgk
        clear hgk
        go_wp2_with fail
        refine (getOne_fail _ rest _ (unhide HY') (unhide HGK)).mono ?_
        rintro e w2 ⟨i2, n2, s2, t2, k2, ty2, x2, m2, rfl, hin2, hb2⟩
        have HB2 : Hid (Below w.heap.size w w2) := (unhide hbel').trans (hb2.mono hsz)
        have hs2 := (unhide HB2).size
        go_wp2_with fail
        refine (broken_use _ m2 _ ((unhide hin2).below ((Below.refl _ _).alloc (Nat.le_refl _) _))).mono ?_
        rintro e w4 ⟨E, rfl, hE, hb4⟩
        go_wp2
        go_returns
        exact .inr ⟨unhide HC, _, rfl, hE, ((unhide HB2).alloc hs2 _).trans (hb4.mono (by simp; omega))⟩
      · have hr := (unhide HY').range
        obtain ⟨hg1, hg2, hg3, hg4⟩ := gok_le rest hr hgk
        rw [unhide HM] at hg2
        have HTX := hide (gpr_txo rest hr hgk)
        have HPY := hide (parse_yes rest (unhide HNE) hr hgk)
        have HG1 := hide (getOne_good _ rest _ (unhide HY') hgk)
        clear hr hgk
        generalize hz : gsz rest = z at hg1 hg2 HPY HG1
        clear hz
        obtain ⟨id, N, s, t, hp⟩ : ∃ id N s t, gpr rest = (id, N, s, t) := ⟨_, _, _, _, rfl⟩
        have hid : id = gid rest := by have := congrArg Prod.fst hp; exact this.symm
        rw [← hid] at hg3 hg4
        rw [hp] at HTX HPY HG1
        clear hp hid
        have HP2 : Hid (parse l = (parse (rest.drop z)).map ((d ++ [(id, N, s, t)]) ++ ·)) := by
          show _ = _
          rw [unhide HP, unhide HPY, Option.map_map]
          congr 1
          funext x
          simp
        clear HPY HP
        go_wp2_with fail
        refine (unhide HG1).mono ?_
        rintro e w2 ⟨rfl, hb2⟩
        have HB2 : Hid (Below w.heap.size w w2) := (unhide hbel').trans (hb2.mono hsz)
        have hs2 := (unhide HB2).size
        have HROW2 : Hid (RowAt w2 w.heap.size place (fun j => sn d j)) := (unhide HROW).below hb2
        have HOWN2 : Hid (w2.ownsRow (w.heap.size + 1) 120 4 u4 (min k 32) (pcs (d.take 32))) := owns_below (unhide HOWN) hb2
        have hRl2 := (unhide HROW2).lt
        clear hb2 HROW HOWN HY' hbel' HG1
        have HOT := hide (okAt_mid place d [] (id, N, s, t))
        cases htk : tk place id N s t (sn d id)
        · have HC : Hid (rdn place l = 1) := rdn_bad place l _ d _ (unhide HP2) ((unhide HOT).trans (by simp only [htk, Bool.false_and]))
          have HTK := hide (tk_toNat (sn d) htk)
          clear htk HOT
          go_wp2_with fail
          refine (take_bad w.heap.size place id N s t (fun j => sn d j) _ ((unhide HROW2).below ((Below.refl _ _).alloc (Nat.le_refl _) _)) (unhide HTK)).mono ?_
          rintro e w3 ⟨E, rfl, hE, hb3⟩
          go_wp2
          go_returns
          exact .inr ⟨unhide HC, _, rfl, hE, ((unhide HB2).alloc hs2 _).trans (hb3.mono (by simp; omega))⟩
        · obtain ⟨hmst, hfit⟩ := tk_mst htk
          obtain ⟨hi1, hi2⟩ := id_range id place hmst
          obtain ⟨q, rfl⟩ : ∃ q : Nat, id = q := ⟨id.toNat, by omega⟩
          have HOKM : Hid (okAt place (d ++ [((q : Int), N, s, t)]) d.length = true) := (unhide HOT).trans (by simp only [htk, Bool.true_and]; exact (unhide HTX).1)
          have HOK2 : Hid (okTo place (d ++ [((q : Int), N, s, t)]) (d ++ [((q : Int), N, s, t)]).length) := okTo_snoc place d _ (unhide HOK) (unhide HOKM)
          have HTK := hide htk
          have HG : Hid (∀ j : Nat, j ≤ 42 → (sn d (j : Int) || decide (q = j)) = sn (d ++ [((q : Int), N, s, t)]) (j : Int)) := fun j _ => by
            rw [sn_snoc, show decide (((q : Int), N, s, t).1 = (j : Int)) = decide (q = j) from by rw [decide_eq_decide]; constructor <;> intro h <;> omega]
          clear htk hmst hfit HOT HOKM HOK
          go_wp2_with fail
          refine (take_use w.heap.size q place N s t (fun j => sn d j) (fun j => sn (d ++ [((q : Int), N, s, t)]) j) _ (by omega) ((unhide HROW2).below ((Below.refl _ _).alloc (Nat.le_refl _) _)) (unhide HTK) (unhide HG) w.heap.size (Nat.le_refl _)).mono ?_
          rintro e w3 ⟨rfl, HROW3, hb3, HOWT, HCT⟩
          have d0 : w3.cell? ⟨w2.heap.size, 0, none⟩ = some (.int .i64 (q : Int)) := ((unhide HCT) w2.heap.size 0 (by omega) (by simp)).trans (by simp)
          have d1 : w3.cell? ⟨w2.heap.size, 1, none⟩ = some (.int .i64 N) := ((unhide HCT) w2.heap.size 1 (by omega) (by simp)).trans (by simp)
          have d2 : w3.cell? ⟨w2.heap.size, 2, none⟩ = some (.string s) := ((unhide HCT) w2.heap.size 2 (by omega) (by simp)).trans (by simp)
          have d3 : w3.cell? ⟨w2.heap.size, 3, none⟩ = some (.string t) := ((unhide HCT) w2.heap.size 3 (by omega) (by simp)).trans (by simp)
          have HOWN3 : Hid (w3.ownsRow (w.heap.size + 1) 120 4 u4 (min k 32) (pcs (d.take 32))) := (unhide HOWT) _ _ _ _ _ _ (by omega) ((unhide HOWN2).alloc _)
          have HB3 : Hid (Below w.heap.size w w3) := ((unhide HB2).alloc hs2 _).trans hb3
          have hs3 : w.heap.size + 1 ≤ w3.heap.size := by have := (unhide HROW3).lt; omega
          clear hb3 HOWT HCT HOWN2 HROW2 HG HTK HB2
          have HLEN2 : Hid ((d ++ [((q : Int), N, s, t)]).length = k + 1) := by show _ = _; rw [List.length_append, unhide HD]; rfl
          by_cases h32 : k < 32
          · have HM1 : Hid (min k 32 = k) := Nat.min_eq_left (by omega)
            have HM2 : Hid (min (k + 1) 32 = k + 1) := Nat.min_eq_left (by omega)
            have HT1 : Hid (d.take 32 = d) := List.take_of_length_le (by rw [unhide HD]; omega)
            have HT2 : Hid ((d ++ [((q : Int), N, s, t)]).take 32 = d ++ [((q : Int), N, s, t)]) := List.take_of_length_le (by rw [unhide HLEN2]; omega)
            rw [unhide HM1, unhide HT1] at HOWN3
            go_wp2_with (first
              | (at_builtin; refine wpList_append_own _ rfl _ _ 24 rfl (w.heap.size + 1) 120 i0 _ 4 48 Tryz.underlying24 hi hz0 hz1 hz2 rfl (by decide) _ _ _ rfl ((unhide HOWN3).alloc _) ⟨w3.heap.size, 0, none⟩ 1 1 [.int .i64 (q : Int), .int .i64 N, .string s, .string t] rfl rfl (four_cell _ _ _ _ _ _) (four_one _ _ _ _) (by unfold maxLen; omega) (by omega) (by simp; omega) ?_)
              | go_in)
            intro v4 w4 hown4 hgrow4 _
            have HB4 : Hid (Below w.heap.size w w4) := ((unhide HB3).alloc (unhide HB3).size _).grown hgrow4 (by simp; omega) (fun g hg => by have := ((unhide HOWN3).lt g hg).1; omega)
            have HROW4 : Hid (RowAt w4 w.heap.size place (fun j => sn (d ++ [((q : Int), N, s, t)]) j)) := row_grown ((unhide HROW3).below ((Below.refl _ _).alloc (Nat.le_refl _) _)) hgrow4 (fun g hg => by have := ((unhide HOWN3).lt g hg).1; omega)
            have HOWN4 : Hid (w4.ownsRow (w.heap.size + 1) 120 4 v4 (min (k + 1) 32) (pcs ((d ++ [((q : Int), N, s, t)]).take 32))) := by
              show World.ownsRow _ _ _ _ _ _ _
              rw [unhide HM2, unhide HT2, pcs_app]
              exact hown4
            clear hown4 hgrow4 HOWN3 HROW3 d0 d1 d2 d3
            by_cases hcz : cap2 = z
            · have hm1 : m = cap2 := by omega
              have hm2 : m = z := by omega
              clear hcz
              subst hm1
              subst hm2
              have HBD : Hid (Byt w (.slice (some ⟨b, off, none⟩) 0 0) (rest.drop m)) := by
                show Byt _ _ _
                have := (unhide HYW).drop' m (Nat.le_refl _)
                rw [if_pos rfl, Nat.sub_self] at this
                exact this
              have HML : Hid ((rest.drop m).length = 0) := by show _ = _; rw [List.length_drop, unhide HM]; omega
              clear HYW HM
              go_wp2
              go_roundw
              case rel => exact ⟨_, _, _, _, k + 1, 0, rfl, rfl, by go_num, by omega, HLEN2, HML, HBD, HP2, HOK2, HROW4, HOWN4, unhide HB4⟩
              case measure => simp [lenOf]; omega
            · have HBD : Hid (Byt w (.slice (some ⟨b, off + z, none⟩) (m - z) (cap2 - z)) (rest.drop z)) := by
                show Byt _ _ _
                have := (unhide HYW).drop' z hg2
                rw [if_neg hcz] at this
                exact this
              have HML : Hid ((rest.drop z).length = m - z) := by show _ = _; rw [List.length_drop, unhide HM]
              clear HYW HM
              go_wp2
              go_roundw
              case rel => exact ⟨_, _, _, _, k + 1, m - z, rfl, rfl, by go_num, by omega, HLEN2, HML, HBD, HP2, HOK2, HROW4, HOWN4, unhide HB4⟩
              case measure => simp [lenOf]; omega
          · have HM1 : Hid (min k 32 = min (k + 1) 32) := by show _ = _; omega
            have HT1 : Hid (d.take 32 = (d ++ [((q : Int), N, s, t)]).take 32) := by show _ = _; rw [List.take_append_of_le_length (by rw [unhide HD]; omega)]
            rw [unhide HM1, unhide HT1] at HOWN3
            by_cases hcz : cap2 = z
            · have hm1 : m = cap2 := by omega
              have hm2 : m = z := by omega
              clear hcz
              subst hm1
              subst hm2
              have HBD : Hid (Byt w (.slice (some ⟨b, off, none⟩) 0 0) (rest.drop m)) := by
                show Byt _ _ _
                have := (unhide HYW).drop' m (Nat.le_refl _)
                rw [if_pos rfl, Nat.sub_self] at this
                exact this
              have HML : Hid ((rest.drop m).length = 0) := by show _ = _; rw [List.length_drop, unhide HM]; omega
              clear HYW HM
              go_wp2
              go_roundw
              case rel => exact ⟨_, _, _, _, k + 1, 0, rfl, rfl, by go_num, by omega, HLEN2, HML, HBD, HP2, HOK2, HROW3, HOWN3, unhide HB3⟩
              case measure => simp [lenOf]; omega
            · have HBD : Hid (Byt w (.slice (some ⟨b, off + z, none⟩) (m - z) (cap2 - z)) (rest.drop z)) := by
                show Byt _ _ _
                have := (unhide HYW).drop' z hg2
                rw [if_neg hcz] at this
                exact this
              have HML : Hid ((rest.drop z).length = m - z) := by show _ = _; rw [List.length_drop, unhide HM]
              clear HYW HM
              go_wp2
              go_roundw
              case rel => exact ⟨_, _, _, _, k + 1, m - z, rfl, rfl, by go_num, by omega, HLEN2, HML, HBD, HP2, HOK2, HROW3, HOWN3, unhide HB3⟩
              case measure => simp [lenOf]; omega
end Go.Proofs.YtpoeakillimibaaGreatDoor
/- Proved here: prop.Get tells the properties with which bytes begin, and how many bytes, or an error's number (pgt). Helper contracts. -/
namespace Go.Proofs.YtpoeakillimibaaGreatDoor
open Go.RowKit
set_option maxRecDepth 100000

/-- the bytes that a length at the beginning tells -/
def pbd (l : List Int) : List Int := (l.drop (ghd l)).take (gid l).toNat
/-- Get's number -/
def pgt (place : Int) (l : List Int) : Int := if (V.vget l).2.2 ≠ 0 then (V.vget l).2.2 else if l.length < ghd l + (gid l).toNat then 3 else rdn place (pbd l)
/-- Get's properties -/
def plist (place : Int) (l : List Int) : List Pr := if pgt place l = 0 then (parse (pbd l)).getD [] else []
/-- .. and how many bytes -/
def psz (place : Int) (l : List Int) : Int := if pgt place l = 0 then ghd l + (gid l).toNat else 0
def GetPost2 (place : Int) (l : List Int) (w : World) (e : Ending) (w' : World) : Prop :=
  ∃ v E, e = .returned (.tuple #[v, .int .i64 (psz place l), E]) ∧ Hid (w'.ownsRow w.heap.size 120 4 v (plist place l).length (pcs (plist place l))) ∧ Hid (ErrP w' E (pgt place l)) ∧ Below w.heap.size w w' ∧ (pgt place l = 0 → E = .nilIface)
theorem get_post_bad (place : Int) (l : List Int) (w w' : World) (n : Int) (hp : pgt place l = n) (hn : n ≠ 0) (x : Value) (hE : Hid (ErrP w' (.iface 149 x) n)) (hb : Below w.heap.size w w') : GetPost2 place l w (.returned (.tuple #[.slice none 0 0, .int .i64 0, .iface 149 x])) w' := by
  refine ⟨.slice none 0 0, .iface 149 x, ?_, ?_, by rw [hp]; exact hE, hb, fun h0 => absurd (hp.symm.trans h0) hn⟩
  · unfold psz
    rw [if_neg (by rw [hp]; exact hn)]
  · show World.ownsRow _ _ _ _ _ _ _
    unfold plist
    rw [if_neg (by rw [hp]; exact hn)]
    exact World.ownsRow_nil _ _ _ _
theorem ghd_le (l : List Int) (h2 : ghd l ≤ l.length) (h : V.put (gid l) = l.take (ghd l)) : ghd l ≤ 4 := by
  have a := congrArg List.length h
  rw [List.length_take, Nat.min_eq_left h2] at a
  have := (V.put_len (gid l)).2
  omega
theorem get3_bad1 (v : Value) (l : List Int) (place : Int) (w : World) (h : Byt w v l) (hv : (V.vget l).2.2 ≠ 0) : Calls Tryz.prog 167 #[v, .int .i64 place] w (GetPost2 place l w) := by
  have hp : pgt place l = (V.vget l).2.2 := by unfold pgt; rw [if_pos hv]
  obtain ⟨ao, cap, rfl, hc1, hc2⟩ := h.form
  have HV := hide h
  have HP := hide hp
  clear h hp
  generalize hm : (V.vget l).2.2 = m at hv HP
  generalize hn : l.length = n at hc1 HV
  have HM := hide hm
  clear hn hm
  go_enter Tryz.func167, Tryz.ntmps167
  go_wp2_with fail
  refine (vget_fail _ l _ (unhide HV) m (unhide HM) hv).mono ?_
  rintro e w1 ⟨a, b, x, rfl, hi, hb1⟩
  have HB1 := hide hb1
  clear hb1
  go_wp2_with fail
  refine (wrap_use _ m _ (unhide hi)).mono ?_
  rintro e w2 ⟨E, rfl, hE, hb2⟩
  go_wp2
  go_returns
  exact get_post_bad place l w _ m (unhide HP) hv _ hE ((unhide HB1).trans (hb2.mono (unhide HB1).size))
theorem get3_short (v : Value) (l : List Int) (place : Int) (w : World) (h : Byt w v l) (hv : (V.vget l).2.2 = 0) (hs : l.length < ghd l + (gid l).toNat) : Calls Tryz.prog 167 #[v, .int .i64 place] w (GetPost2 place l w) := by
  have hp : pgt place l = 3 := by unfold pgt; rw [if_neg (by rw [hv]; decide), if_pos hs]
  obtain ⟨hv', h1, h2, h3, h4, h5⟩ := vget_is l h.range hv
  have hQ4 := ghd_le l h2 h5
  clear h5
  obtain ⟨ao, cap, rfl, hc1, hc2⟩ := h.form
  unfold maxLen at hc2
  have HV := hide h
  have HP := hide hp
  clear h hp hv
  obtain ⟨N, hN⟩ : ∃ N : Nat, gid l = N := ⟨(gid l).toNat, by omega⟩
  rw [hN, Int.toNat_natCast] at hs
  rw [hN] at hv' h3 h4
  generalize ghd l = Q at hQ4 hv' h1 h2 hs
  have Hv := hide hv'
  generalize hn : l.length = n at hc1 HV h2 hs
  clear hn hv' hN
  go_enter Tryz.func167, Tryz.ntmps167
  go_wp2_with fail
  refine (vget_good _ l _ (unhide HV) N Q (unhide Hv)).mono ?_
  rintro e w1 ⟨rfl, hb1⟩
  have HB1 := hide hb1
  clear hb1
  go_wp2_with fail
  refine (pfault_use 3 _).mono ?_
  rintro e w2 ⟨E, rfl, hE, hb2⟩
  go_wp2
  go_returns
  exact get_post_bad place l w _ 3 (unhide HP) (by decide) _ hE ((unhide HB1).trans (hb2.mono (unhide HB1).size))
theorem Byt.mid {w : World} {b off n cap : Nat} {l : List Int} (h : Byt w (.slice (some ⟨b, off, none⟩) n cap) l) (p q : Nat) (hq : p + q ≤ n) : Byt w (.slice (if cap = p then some ⟨b, off, none⟩ else some ⟨b, off + p, none⟩) q (cap - p)) ((l.drop p).take q) :=
  (h.drop' p (by omega)).take q (by omega)
set_option maxHeartbeats 4000000 in
theorem get3_read (v : Value) (l : List Int) (place : Int) (w : World) (h : Byt w v l) (hv : (V.vget l).2.2 = 0) (hs : ghd l + (gid l).toNat ≤ l.length) : Calls Tryz.prog 167 #[v, .int .i64 place] w (GetPost2 place l w) := by
  have hp : pgt place l = rdn place (pbd l) := by unfold pgt; rw [if_neg (by rw [hv]; decide), if_neg (by omega)]
  have hsz : ∀ q, parse (pbd l) = some q → pgt place l = 0 → plist place l = q ∧ psz place l = ((ghd l + (gid l).toNat : Nat) : Int) := fun q hq h0 => by
    unfold plist psz
    rw [if_pos h0, if_pos h0, hq]
    exact ⟨rfl, by omega⟩
  obtain ⟨hv', h1, h2, h3, h4, h5⟩ := vget_is l h.range hv
  have hQ4 := ghd_le l h2 h5
  clear h5
  obtain ⟨b, off, cap, rfl, hc1, hc2⟩ := h.form1 (by omega)
  unfold maxLen at hc2
  have HV := hide h
  have HP := hide hp
  have HSZ := hide hsz
  clear h hp hv hsz
  have hpb : pbd l = (l.drop (ghd l)).take (gid l).toNat := rfl
  obtain ⟨N, hN⟩ : ∃ N : Nat, gid l = N := ⟨(gid l).toNat, by omega⟩
  rw [hN, Int.toNat_natCast] at hs HSZ hpb
  rw [hN] at hv' h3 h4
  generalize ghd l = Q at hQ4 hv' h1 h2 hs HSZ hpb
  generalize pbd l = L at HP HSZ hpb
  have Hv := hide hv'
  generalize hn : l.length = n at hc1 HV h2 hs
  have HPB := hide hpb
  clear hn hv' hN hpb
  by_cases hcQ : cap = Q
  · have e1 : Q = cap := hcQ.symm
    clear hcQ
    subst e1
    have e2 : Q = n := by omega
    subst e2
    obtain rfl : N = 0 := by omega
    have HD : Hid (Byt w (.slice (some ⟨b, off, none⟩) 0 0) L) := by
      show Byt _ _ _
      have := (unhide HV).mid Q 0 (by omega)
      rw [if_pos rfl, Nat.sub_self, ← unhide HPB] at this
      exact this
    go_enter Tryz.func167, Tryz.ntmps167
    go_wp2_with fail
    refine (vget_good _ l _ (unhide HV) 0 Q (unhide Hv)).mono ?_
    rintro e w1 ⟨rfl, hb1⟩
    have HB1 := hide hb1
    clear hb1
    go_wp2_with fail
    refine (read_any _ L place _ ((unhide HD).below (unhide HB1))).mono ?_
    rintro e w2 (⟨q, v2, hpar, hok, rfl, hown, hb2⟩ | ⟨hc, E, rfl, hE, hb2⟩)
    · have HPAR := hide hpar
      have HOK := hide hok
      have HB2 : Hid (Below w.heap.size w w2) := (unhide HB1).trans (hb2.mono (unhide HB1).size)
      have HOWN : Hid (w2.ownsRow w.heap.size 120 4 v2 (min q.length 32) (pcs (q.take 32))) := owns_mono (unhide hown) (unhide HB1).size
      have HRD : Hid (pgt place l = chkP place q) := (unhide HP).trans (rdn_some place L q hpar)
      clear hpar hok hb2 hown
      generalize hk : q.length = k at HOWN
      have HK := hide hk
      clear hk
      rcases Nat.lt_or_ge 32 k with h32 | h32
      · have HC : Hid (pgt place l = 2) := (unhide HRD).trans (chkP_lim place q (unhide HOK) (by rw [unhide HK]; exact h32))
        go_wp2_with fail
        refine (few_bad k _ (by omega)).mono ?_
        rintro e w3 ⟨E, rfl, hE, hb3⟩
        go_wp2
        go_returns
        exact get_post_bad place l w _ 2 (unhide HC) (by decide) _ hE ((unhide HB2).trans (hb3.mono (unhide HB2).size))
      · have HC : Hid (pgt place l = 0) := (unhide HRD).trans (chkP_ok place q (unhide HOK) (by rw [unhide HK]; exact h32))
        have HLS := hide ((unhide HSZ) q (unhide HPAR) (unhide HC))
        go_wp2_with fail
        refine (few_ok k _ (by omega)).mono ?_
        rintro e w3 ⟨rfl, hw⟩
        obtain rfl := hw.symm
        clear hw
        go_wp2
        go_returns
        refine ⟨_, _, by rw [(unhide HLS).2]; exact (by go_num), ?_, by rw [unhide HC]; exact ErrP.nil _, unhide HB2, fun _ => rfl⟩
        show World.ownsRow _ _ _ _ _ _ _
        rw [(unhide HLS).1, unhide HK]
        have := unhide HOWN
        rw [Nat.min_eq_left h32, List.take_of_length_le (by rw [unhide HK]; exact h32)] at this
        exact this
    · have HC : Hid (pgt place l = 1) := (unhide HP).trans hc
      clear hc
      go_wp2
      go_returns
      exact get_post_bad place l w _ 1 (unhide HC) (by decide) _ hE ((unhide HB1).trans (hb2.mono (unhide HB1).size))
  · have HD : Hid (Byt w (.slice (some ⟨b, off + Q, none⟩) N (cap - Q)) L) := by
      show Byt _ _ _
      have := (unhide HV).mid Q N (by omega)
      rw [if_neg hcQ, ← unhide HPB] at this
      exact this
    go_enter Tryz.func167, Tryz.ntmps167
    go_wp2_with fail
    refine (vget_good _ l _ (unhide HV) N Q (unhide Hv)).mono ?_
    rintro e w1 ⟨rfl, hb1⟩
    have HB1 := hide hb1
    clear hb1
    go_wp2_with fail
    refine (read_any _ L place _ ((unhide HD).below (unhide HB1))).mono ?_
    rintro e w2 (⟨q, v2, hpar, hok, rfl, hown, hb2⟩ | ⟨hc, E, rfl, hE, hb2⟩)
    · have HPAR := hide hpar
      have HOK := hide hok
      have HB2 : Hid (Below w.heap.size w w2) := (unhide HB1).trans (hb2.mono (unhide HB1).size)
      have HOWN : Hid (w2.ownsRow w.heap.size 120 4 v2 (min q.length 32) (pcs (q.take 32))) := owns_mono (unhide hown) (unhide HB1).size
      have HRD : Hid (pgt place l = chkP place q) := (unhide HP).trans (rdn_some place L q hpar)
      clear hpar hok hb2 hown
      generalize hk : q.length = k at HOWN
      have HK := hide hk
      clear hk
      rcases Nat.lt_or_ge 32 k with h32 | h32
      · have HC : Hid (pgt place l = 2) := (unhide HRD).trans (chkP_lim place q (unhide HOK) (by rw [unhide HK]; exact h32))
        go_wp2_with fail
        refine (few_bad k _ (by omega)).mono ?_
        rintro e w3 ⟨E, rfl, hE, hb3⟩
        go_wp2
        go_returns
        exact get_post_bad place l w _ 2 (unhide HC) (by decide) _ hE ((unhide HB2).trans (hb3.mono (unhide HB2).size))
      · have HC : Hid (pgt place l = 0) := (unhide HRD).trans (chkP_ok place q (unhide HOK) (by rw [unhide HK]; exact h32))
        have HLS := hide ((unhide HSZ) q (unhide HPAR) (unhide HC))
        go_wp2_with fail
        refine (few_ok k _ (by omega)).mono ?_
        rintro e w3 ⟨rfl, hw⟩
        obtain rfl := hw.symm
        clear hw
        go_wp2
        go_returns
        refine ⟨_, _, by rw [(unhide HLS).2]; exact (by go_num), ?_, by rw [unhide HC]; exact ErrP.nil _, unhide HB2, fun _ => rfl⟩
        show World.ownsRow _ _ _ _ _ _ _
        rw [(unhide HLS).1, unhide HK]
        have := unhide HOWN
        rw [Nat.min_eq_left h32, List.take_of_length_le (by rw [unhide HK]; exact h32)] at this
        exact this
    · have HC : Hid (pgt place l = 1) := (unhide HP).trans hc
      clear hc
      go_wp2
      go_returns
      exact get_post_bad place l w _ 1 (unhide HC) (by decide) _ hE ((unhide HB1).trans (hb2.mono (unhide HB1).size))
theorem get3_two (v : Value) (l : List Int) (place : Int) (w : World) (h : Byt w v l) : Calls Tryz.prog 167 #[v, .int .i64 place] w (GetPost2 place l w) := by
  by_cases hv : (V.vget l).2.2 = 0
  · rcases Nat.lt_or_ge l.length (ghd l + (gid l).toNat) with hs | hs
    · exact get3_short v l place w h hv hs
    · exact get3_read v l place w h hv hs
  · exact get3_bad1 v l place w h hv
end Go.Proofs.YtpoeakillimibaaGreatDoor
/- Proved here: packet's reader: props as a step of a plain reader. Helper contracts. -/
namespace Go.Proofs.YtpoeakillimibaaGreatDoor.K
open Go.RowKit
set_option maxRecDepth 100000

theorem psz_len (place : Int) (l : List Int) : ∃ N : Nat, psz place l = (N : Int) ∧ N ≤ l.length := by
  unfold psz
  by_cases h : pgt place l = 0
  · rw [if_pos h]
    refine ⟨ghd l + (gid l).toNat, rfl, ?_⟩
    unfold pgt at h
    split at h
    · contradiction
    · split at h
      · contradiction
      · omega
  · rw [if_neg h]
    exact ⟨0, rfl, Nat.zero_le _⟩
def props? (place : Int) (l : List Int) : Option (List Pr × List Int) := if pgt place l = 0 then some (plist place l, l.drop (psz place l).toNat) else none
/-- a step that tells properties -/
def RdP (w0 : World) (R : Nat) (place : Int) (st : Option (List Int)) (w : World) (e : Ending) (w' : World) : Prop :=
  ∃ (t : Sl) (x : List Pr) (st' : Option (List Int)), e = .returned t.val ∧ Hid (w'.ownsRow w.heap.size 120 4 t.val x.length (pcs x)) ∧ Stp (props? place) st x st' ∧ RS w0 w' R st' ∧ BX R isRE w w'
set_option maxHeartbeats 1000000 in
theorem props_any (R : Nat) (place : Int) (st : Option (List Int)) (w0 w : World) (h : RS w0 w R st) : Calls Tryz.prog 120 #[.pointer (some ⟨R, 0, none⟩), .int .i64 place] w (RdP w0 R place st w) := by
  have hlt := h.lt
  obtain ⟨_, ⟨c, hd⟩, bv, l, E, hr, hb, hw, hR, hst⟩ := h
  obtain ⟨n, hN, hn⟩ := psz_len place l
  have HG := hide (get3_two bv l place w (hb.below hw))
  have HQ : Hid (props? place l = if pgt place l = 0 then some (plist place l, l.drop n) else none) := by
    show props? place l = _
    unfold props?
    rw [hN, Int.toNat_natCast]
  have HN := hide hN
  have hE := st_form hst
  have hst' : st = some l ∨ st = none := hst.imp And.left And.left
  have HR := hide hr
  have HB := hide hb
  have HA := hide (after w0 w)
  have HD := hide hd
  have HW := hide hw
  have HS := hide hst
  have HS' := hide hst'
  have HE := hide hE
  obtain ⟨h1, h2, h3, h4⟩ := hr
  clear hN hd hb hw hst hst' hE h2 h3 h4
  go_enter Tryz.func120, Tryz.ntmps120
  go_wp2_with fail
  refine (unhide HG).mono ?_
  rintro e w1 ⟨v, F, he, hO, hF, hB, hz⟩
  rw [unhide HN] at he
  subst he
  have HF : Hid (Bel w1 (fun k => k = R) F (pgt place l)) := by
    show Bel _ _ _ _
    by_cases h0 : pgt place l = 0
    · exact .inl ⟨h0, hz h0⟩
    · rcases er_of_p (unhide hF) with ⟨h, _⟩ | ⟨d, hd, h⟩
      · exact absurd h h0
      · exact .inr ⟨h0, d, hd, ErO.of ((hB.cell (p := ⟨R, 1, none⟩) hlt).trans (unhide HD)) h⟩
  obtain ⟨t, ht, _⟩ := owns_sl (unhide hO)
  subst ht
  have HB1 := hide hB
  have HR1 := hide ((unhide HR).below hB)
  clear hB h1 hF hz
  generalize pgt place l = m at HQ HF
  generalize plist place l = x at HQ hO
  clear HG HN
  go_wp2_with fail
  refine (fail_any R bv E F w1 (unhide HR1) (unhide HE) (unhide HF).form).mono ?_
  rintro e w2 ⟨rfl, hr2, hx2⟩
  have HR2 := hide hr2
  have HX2 := hide hx2
  clear hr2 hx2
  go_wp2_with fail
  refine (next_ok R bv (orE E F) l n w0 w2 (unhide HR2) (unhide HB) hn).mono ?_
  rintro e w3 ⟨v, bv', rfl, hv, hbv, hr3, hx3⟩
  have HV := hide hbv
  have HR3 := hide hr3
  have HX3 := hide hx3
  clear hv hbv hr3 hx3
  go_wp2
  go_ret
  have k := (unhide HA) w1 w2 w3 R (fun k => k = R) bv' E F st l n m c ⟨rfl, fun k hk => by rw [hk]; exact hlt⟩ (unhide HD) (unhide HW) hR (unhide HS) (unhide HB1) (unhide HF) (unhide HX2) (unhide HX3) (unhide HV) (unhide HR3)
  exact ⟨t, x, _, rfl, owns_bx (unhide hO) ((unhide HX2).trans (unhide HX3)) hlt, stp_get (props? place) st l x n m (unhide HS') (unhide HQ), k.1, k.2⟩
end Go.Proofs.YtpoeakillimibaaGreatDoor.K
/- Proved here: packet's reader: reason. Helper contracts. -/
namespace Go.Proofs.YtpoeakillimibaaGreatDoor.K
open Go.RowKit
set_option maxRecDepth 100000

def reason? (kind : Int) (l : List Int) : Option ((Int × List Pr) × List Int) := match l with
  | [] => some ((0, []), [])
  | c :: t => if t = [] then some ((c, []), []) else (props? kind t).map fun r => ((c, r.1), r.2)
/-- behind the reader's steps: the packet's Code and Props -/
def ReasonPost (w0 : World) (R : Nat) (p : Pkv) (st : Option (List Int)) (w : World) (e : Ending) (w' : World) : Prop :=
  e = .returned (.tuple #[]) ∧ ∃ (c : Int) (t : Sl) (x : List Pr) (st' : Option (List Int)), Pk w' R { p with code := c, props := t } ∧ Hid (w'.ownsRow w.heap.size 120 4 t.val x.length (pcs x)) ∧ Stp (reason? p.kind) st (c, x) st' ∧ RS w0 w' R st' ∧ BX R isAny w w'
theorem len_nil {st : Option (List Int)} {n : Nat} (h : ∀ l, st = some l → l.length = n) (hn : n = 0) : st = none ∨ st = some [] := by
  cases st with
  | none => exact .inl rfl
  | some l => exact .inr (by rw [List.length_eq_zero_iff.1 ((h l rfl).trans hn)])
theorem owns_nil (w : World) (B : Nat) (e : TypeId) (s : Nat) : w.ownsRow B e s (Sl.val ⟨none, 0, 0⟩) 0 [] := World.ownsRow_nil _ _ _ _
set_option maxHeartbeats 2000000 in
theorem reason_any (R : Nat) (p : Pkv) (st : Option (List Int)) (w0 w : World) (h : RS w0 w R st) (hp : Pk w R p) (hc : p.code = 0) (hpr : p.props = ⟨none, 0, 0⟩) : Calls Tryz.prog 124 #[.pointer (some ⟨R, 0, none⟩)] w (ReasonPost w0 R p st w) := by
  have hlt := h.lt
  obtain ⟨ao, n, cap, h19, ⟨hc1, hc2⟩, hl⟩ := h.rest
  unfold maxLen at hc2
  have HP := hide hp
  have HS := hide h
  have HL := hide hl
  have HC := hide hc
  have HPR := hide hpr
  clear hp h hl hc hpr
  by_cases hn : n = 0
  · subst hn
    go_enter Tryz.func124, Tryz.ntmps124
    go_wp2
    go_end0
    refine ⟨rfl, 0, ⟨none, 0, 0⟩, [], st, ?_, owns_nil _ _ _ _, ?_, unhide HS, BX.refl _ _ _⟩
    · have e : { p with code := 0, props := ⟨none, 0, 0⟩ } = p := by rw [← unhide HC, ← unhide HPR]
      rw [e]
      exact unhide HP
    · rcases len_nil (unhide HL) rfl with rfl | rfl
      · exact rfl
      · exact ⟨rfl, rfl⟩
  · go_enter Tryz.func124, Tryz.ntmps124
    go_wp2_with fail
    refine (one_any R st w0 w (unhide HS)).mono ?_
    rintro e w1 ⟨c, st1, rfl, hc, hs1, h1, hx1⟩
    have hp1 := (unhide HP).bx hx1
    have c14 := hp1.code
    have f14 := hp1.code_f
    have c0 := hp1.kind
    have c7 := hp1.props
    have f7 := hp1.props_f
    obtain ⟨ao1, n1, cap1, g19, ⟨gc1, gc2⟩, gl⟩ := h1.rest
    unfold maxLen at gc2
    have HP1 := hide hp1
    have HS1 := hide h1
    have HX1 := hide hx1
    have HST1 := hide hs1
    have GL := hide gl
    clear hp1 h1 hx1 hs1 gl h19
    by_cases hn1 : n1 = 0
    · subst hn1
      go_wp2
      go_end0
      refine ⟨rfl, c, ⟨none, 0, 0⟩, [], st1, ?_, owns_nil _ _ _ _, ?_, (unhide HS1).set 14 _ (by decide), ((unhide HX1).any).set 14 _ trivial⟩
      · have e : { p with code := c, props := ⟨none, 0, 0⟩ } = { p with code := c } := by rw [← unhide HPR]
        rw [e]
        exact (unhide HP1).set_code c
      · have k := unhide HST1
        cases st with
        | none => exact k
        | some l =>
          cases l with
          | nil => exact absurd ((unhide HL) [] rfl) (fun e => hn e.symm)
          | cons y t =>
            obtain ⟨rfl, rfl⟩ := k
            have ht : t = [] := List.length_eq_zero_iff.1 ((unhide GL) t rfl)
            simp [Stp, reason?, ht]
    · have HP2 := hide ((unhide HP1).set_code c)
      have HS2 := hide ((unhide HS1).set 14 (.int .i64 c) (by decide))
      have HX2 := hide (((unhide HX1).any).set 14 (.int .i64 c) trivial)
      go_wp2_with fail
      refine (props_any R p.kind st1 w0 _ (unhide HS2)).mono ?_
      rintro e w3 ⟨t, x, st3, rfl, hO, hs3, h3, hx3⟩
      have hp3 := (unhide HP2).bx hx3
      have d7 := hp3.props
      have e7 := hp3.props_f
      have HP3 := hide hp3
      have HS3 := hide h3
      have HX3 := hide hx3
      have HST3 := hide hs3
      clear hp3 h3 hx3 hs3 c14 f14 c0 c7 f7 g19
      go_wp2
      go_end0
      have hB : w.heap.size ≤ (w1.setCell ⟨R, 14, none⟩ (.int .i64 c)).heap.size := (unhide HX2).size
      refine ⟨rfl, c, t, x, st3, (unhide HP3).set_props t, ?_, ?_, (unhide HS3).set 7 _ (by decide), ((unhide HX2).trans (unhide HX3).any).set 7 _ trivial⟩
      · exact owns_mono (owns_bx (unhide hO) ((BX.refl R isAny w3).set 7 _ trivial) (Nat.lt_of_lt_of_le hlt hB)) hB
      · have k := unhide HST1
        have k3 := unhide HST3
        cases st with
        | none =>
          obtain rfl : st1 = none := k
          exact k3
        | some l =>
          cases l with
          | nil => exact absurd ((unhide HL) [] rfl) (fun e => hn e.symm)
          | cons y t' =>
            obtain ⟨rfl, rfl⟩ := k
            have ht : t' ≠ [] := fun e => hn1 (by rw [← (unhide GL) t' rfl, e]; rfl)
            simp only [Stp, reason?, if_neg ht]
            simp only [Stp] at k3
            cases hq : props? p.kind t' with
            | none => rw [hq] at k3; simpa using k3
            | some r =>
              obtain ⟨r1, r2⟩ := r
              rw [hq] at k3
              obtain ⟨rfl, rfl⟩ := k3
              simp
end Go.Proofs.YtpoeakillimibaaGreatDoor.K
/- Proved here: packet's reader: publish. Helper contracts. -/
namespace Go.Proofs.YtpoeakillimibaaGreatDoor.K
open Go.RowKit
set_option maxRecDepth 100000

/-- readers, one behind the other -/
def bindR {α β : Type} (f : List Int → Option (α × List Int)) (g : α → List Int → Option (β × List Int)) (l : List Int) : Option (β × List Int) := (f l).bind fun r => g r.1 r.2
def pureR {α : Type} (x : α) (l : List Int) : Option (α × List Int) := some (x, l)
def mustR (b : Bool) (l : List Int) : Option (Unit × List Int) := if b then some ((), l) else none
theorem Stp.bind {α β : Type} {f : List Int → Option (α × List Int)} {g : α → List Int → Option (β × List Int)} {st st1 st2 : Option (List Int)} {x : α} {y : β} (h1 : Stp f st x st1) (h2 : Stp (g x) st1 y st2) : Stp (bindR f g) st y st2 := by
  cases st with
  | none =>
    obtain rfl : st1 = none := h1
    exact h2
  | some l =>
    unfold Stp bindR
    simp only
    unfold Stp at h1
    simp only at h1
    cases hf : f l with
    | none =>
      rw [hf] at h1
      obtain rfl : st1 = none := h1
      exact h2
    | some r =>
      obtain ⟨a, l'⟩ := r
      rw [hf] at h1
      obtain ⟨rfl, rfl⟩ := h1
      exact h2
theorem Stp.pure {α : Type} (x : α) (st : Option (List Int)) : Stp (pureR x) st x st := by
  cases st with
  | none => rfl
  | some l => exact ⟨rfl, rfl⟩
theorem Stp.must (b : Bool) (st : Option (List Int)) : Stp (mustR b) st () (if b then st else none) := by
  cases st with
  | none => cases b <;> rfl
  | some l =>
    cases b
    · rfl
    · exact ⟨rfl, rfl⟩
theorem Stp.congr {α : Type} {f g : List Int → Option (α × List Int)} (h : ∀ l, f l = g l) {st st' : Option (List Int)} {x : α} (hs : Stp f st x st') : Stp g st x st' := by
  obtain rfl : f = g := funext h
  exact hs
/-- all that is left -/
def allR (l : List Int) : Option (ByteArray × List Int) := some (bs l, [])
theorem all_any (R n : Nat) (st : Option (List Int)) (w0 w : World) (h : RS w0 w R st) (ao : Option Addr) (cap : Nat) (h19 : w.cell? ⟨R, 19, none⟩ = some (.slice ao n cap)) :
    Calls Tryz.prog 165 #[.pointer (some ⟨R, 0, none⟩), .int .i64 n] w fun e w' => ∃ v l, e = .returned v ∧ Hid (Byt w' v l) ∧ Stp allR st (bs l) (st.map fun _ => []) ∧ RS w0 w' R (st.map fun _ => []) ∧ BX R isRE w w' := by
  obtain ⟨hX, ⟨c, hd⟩, bv, l, E, hr, hb, hw, hR, hst⟩ := h
  obtain rfl : bv = .slice ao n cap := by have := hr.1.symm.trans h19; simpa using this
  have hl : n = l.length := by
    obtain ⟨ao', cap', e, _⟩ := hb.form
    simp only [Value.slice.injEq] at e
    exact e.2.1
  refine (next_ok R _ E l n w0 w hr hb (by omega)).mono ?_
  rintro e w' ⟨v, bv', rfl, hv, hbv, hr', hx⟩
  rw [hl, List.take_length] at hv
  rw [hl, List.drop_length] at hbv
  have hk := hx.keep hw hR
  refine ⟨v, l, rfl, hv.below hk, ?_, ⟨xs_grow (X := fun k => k = R) hX hx.size, ⟨c, (hx.cell 1 isRE1).trans hd⟩, bv', [], E, hr', hbv, hk, hR, ?_⟩, hx⟩
  · rcases hst with ⟨rfl, _⟩ | ⟨rfl, _⟩
    · exact ⟨rfl, rfl⟩
    · exact rfl
  · rcases hst with ⟨rfl, rfl⟩ | ⟨rfl, d, k, hd', he⟩
    · exact .inl ⟨rfl, rfl⟩
    · exact .inr ⟨rfl, d, k, hd', ErO.bx (X := fun k => k = R) hx rfl he⟩
def publish? (qos : Int) : List Int → Option ((ByteArray × Int × List Pr × ByteArray) × List Int) :=
  bindR text? fun t => bindR (if 0 < qos then id? else pureR 0) fun i => bindR (props? 3) fun x => bindR allR fun y => pureR (t, i, x, y)
def PubPost (w0 : World) (R : Nat) (p : Pkv) (st : Option (List Int)) (w : World) (e : Ending) (w' : World) : Prop :=
  e = .returned (.tuple #[]) ∧ ∃ (t : ByteArray) (i : Int) (s : Sl) (x : List Pr) (y : ByteArray) (st' : Option (List Int)), Pk w' R { p with topic := t, id := i, props := s, payload := y } ∧ Hid (w'.ownsRow w.heap.size 120 4 s.val x.length (pcs x)) ∧ Stp (publish? p.qos) st (t, i, x, y) st' ∧ RS w0 w' R st' ∧ BX R isAny w w'
/-- behind the ID: Props and Payload -/
theorem pub_end (R : Nat) (p q : Pkv) (st : Option (List Int)) (w0 w w2 : World) (t : ByteArray) (i : Int) (st2 : Option (List Int)) (HX2 : Hid (BX R isAny w w2)) (hlt : R < w.heap.size)
    (HST : Hid (∀ x y st', Stp (bindR (props? 3) fun x => bindR allR fun y => pureR (t, i, x, y)) st2 (t, i, x, y) st' → Stp (publish? p.qos) st (t, i, x, y) st')) (HQ : Hid (q = { p with topic := t, id := i }))
    (w3 : World) (s : Sl) (x : List Pr) (st3 : Option (List Int)) (hO : Hid (w3.ownsRow w2.heap.size 120 4 s.val x.length (pcs x))) (HST3 : Hid (Stp (props? 3) st2 x st3)) (HX3 : Hid (BX R isAny w2 w3)) (HP3 : Hid (Pk w3 R { q with props := s }))
    (w4 : World) (l : List Int) (HST4 : Hid (Stp allR st3 (bs l) (st3.map fun _ => []))) (HS4 : Hid (RS w0 w4 R (st3.map fun _ => []))) (HX4 : Hid (BX R isRE w3 w4)) : PubPost w0 R p st w (.returned (.tuple #[])) (w4.setCell ⟨R, 6, none⟩ (.string (bs l))) := by
  have e := unhide HQ
  subst e
  have hB : w.heap.size ≤ w2.heap.size := (unhide HX2).size
  refine ⟨rfl, t, i, s, x, bs l, _, ((unhide HP3).bx (unhide HX4)).set_payload (bs l), ?_, (unhide HST) _ _ _ ((unhide HST3).bind ((unhide HST4).bind (Stp.pure _ _))), (unhide HS4).set 6 _ (by decide), (((unhide HX2).trans (unhide HX3)).trans (unhide HX4).any).set 6 _ trivial⟩
  exact owns_mono (owns_bx (owns_bx (unhide hO) (unhide HX4) (Nat.lt_of_lt_of_le hlt hB)) ((BX.refl R isAny w4).set 6 _ trivial) (Nat.lt_of_lt_of_le hlt hB)) hB
set_option maxHeartbeats 2000000 in
theorem publish_any (R : Nat) (p : Pkv) (st : Option (List Int)) (w0 w : World) (h : RS w0 w R st) (hp : Pk w R p) (hk : p.kind = 3) (hi : p.id = 0) : Calls Tryz.prog 121 #[.pointer (some ⟨R, 0, none⟩)] w (PubPost w0 R p st w) := by
  have hlt := h.lt
  have HP := hide hp
  have HS := hide h
  have HK := hide hk
  have HI := hide hi
  clear hp h hk hi
  go_enter Tryz.func121, Tryz.ntmps121
  go_wp2_with fail
  refine (text_any R st w0 w (unhide HS)).mono ?_
  rintro e w1 ⟨t, st1, rfl, hts, hs1, h1, hx1⟩
  have hp1 := (unhide HP).bx hx1
  have c4 := hp1.topic
  have f4 := hp1.topic_f
  have c2 := hp1.qos
  have c0 := hp1.kind
  have HP1 := hide (hp1.set_topic t)
  have HS1 := hide (h1.set 4 (.string t) (by decide))
  have HX1 := hide ((hx1.any).set 4 (.string t) trivial)
  have HST1 := hide hs1
  clear hp1 h1 hx1 hs1
  rw [unhide HK] at c0
  by_cases hq : 0 < p.qos
  · go_wp2_with fail
    refine (id_any R st1 w0 _ (unhide HS1)).mono ?_
    rintro e w2 ⟨i, st2, rfl, hii, hs2, h2, hx2⟩
    have hp2 := (unhide HP1).bx hx2
    have d5 := hp2.id
    have g5 := hp2.id_f
    have d0 := hp2.kind
    have HP2 := hide (hp2.set_id i)
    have HS2 := hide (h2.set 5 (.int .i64 i) (by decide))
    have HX2 := hide (((unhide HX1).trans hx2.any).set 5 (.int .i64 i) trivial)
    have HST2 : Hid (∀ x y st', Stp (bindR (props? 3) fun x => bindR allR fun y => pureR (t, i, x, y)) st2 (t, i, x, y) st' → Stp (publish? p.qos) st (t, i, x, y) st') := fun x y st' k => by
      unfold publish?
      rw [if_pos hq]
      exact (unhide HST1).bind (hs2.bind k)
    clear hp2 h2 hx2 hs2 c4 f4 c2 c0
    rw [show ({ p with topic := t } : Pkv).kind = 3 from unhide HK] at d0
    go_wp2_with fail
    refine (props_any R 3 st2 w0 _ (unhide HS2)).mono ?_
    rintro e w3 ⟨s, x, st3, rfl, hO, hs3, h3, hx3⟩
    have hp3 := (unhide HP2).bx hx3
    have e7 := hp3.props
    have f7 := hp3.props_f
    obtain ⟨ao, n, cap, g19, ⟨gc1, gc2⟩, gl⟩ := (h3.set 7 s.val (by decide)).rest
    unfold maxLen at gc2
    have G19 := hide g19
    have k19 : w3.cell? ⟨R, 19, none⟩ = some (.slice ao n cap) := by rw [World.cell?_setCell_other _ _ _ _ (by intro e; simp at e)] at g19; exact g19
    have HP3 := hide (hp3.set_props s)
    have HS3 := hide (h3.set 7 s.val (by decide))
    have HX3 := hide ((hx3.any).set 7 s.val trivial)
    have HST3 := hide hs3
    have HO3 : Hid ((w3.setCell ⟨R, 7, none⟩ s.val).ownsRow (w2.setCell ⟨R, 5, none⟩ (.int .i64 i)).heap.size 120 4 s.val x.length (pcs x)) := owns_bx (unhide hO) ((BX.refl R isAny w3).set 7 _ trivial) (Nat.lt_of_lt_of_le hlt (unhide HX2).size)
    clear hp3 h3 hx3 hs3 d5 g5 d0 g19 gl hO
    go_wp2_with fail
    refine (all_any R n st3 w0 _ (unhide HS3) ao cap (unhide G19)).mono ?_
    rintro e w4 ⟨v, l, rfl, hv, hs4, h4, hx4⟩
    have hcv := conv_byt w4 v l (unhide hv)
    have hp4 := (unhide HP3).bx hx4
    have c6 := hp4.payload
    have f6 := hp4.payload_f
    have HX4 := hide hx4
    have HS4 := hide h4
    have HST4 := hide hs4
    clear hx4 h4 hs4 hp4 e7 f7 k19 hv
    go_wp2
    go_end0
    exact pub_end R p { p with topic := t, id := i } st w0 w _ t i st2 HX2 hlt HST2 (hide rfl) _ s x st3 HO3 HST3 HX3 HP3 w4 l HST4 HS4 HX4
  · have HST2 : Hid (∀ x y st', Stp (bindR (props? 3) fun x => bindR allR fun y => pureR (t, (0 : Int), x, y)) st1 (t, (0 : Int), x, y) st' → Stp (publish? p.qos) st (t, (0 : Int), x, y) st') := fun x y st' k => by
      unfold publish?
      rw [if_neg hq]
      exact (unhide HST1).bind ((Stp.pure 0 st1).bind k)
    go_wp2_with fail
    refine (props_any R 3 st1 w0 _ (unhide HS1)).mono ?_
    rintro e w3 ⟨s, x, st3, rfl, hO, hs3, h3, hx3⟩
    have hp3 := (unhide HP1).bx hx3
    have e7 := hp3.props
    have f7 := hp3.props_f
    obtain ⟨ao, n, cap, g19, ⟨gc1, gc2⟩, gl⟩ := (h3.set 7 s.val (by decide)).rest
    unfold maxLen at gc2
    have G19 := hide g19
    have k19 : w3.cell? ⟨R, 19, none⟩ = some (.slice ao n cap) := by rw [World.cell?_setCell_other _ _ _ _ (by intro e; simp at e)] at g19; exact g19
    have HP3 := hide (hp3.set_props s)
    have HS3 := hide (h3.set 7 s.val (by decide))
    have HX3 := hide ((hx3.any).set 7 s.val trivial)
    have HST3 := hide hs3
    have HO3 : Hid ((w3.setCell ⟨R, 7, none⟩ s.val).ownsRow (w1.setCell ⟨R, 4, none⟩ (.string t)).heap.size 120 4 s.val x.length (pcs x)) := owns_bx (unhide hO) ((BX.refl R isAny w3).set 7 _ trivial) (Nat.lt_of_lt_of_le hlt (unhide HX1).size)
    clear hp3 h3 hx3 hs3 c4 f4 c2 c0 g19 gl hO
    go_wp2_with fail
    refine (all_any R n st3 w0 _ (unhide HS3) ao cap (unhide G19)).mono ?_
    rintro e w4 ⟨v, l, rfl, hv, hs4, h4, hx4⟩
    have hcv := conv_byt w4 v l (unhide hv)
    have hp4 := (unhide HP3).bx hx4
    have c6 := hp4.payload
    have f6 := hp4.payload_f
    have HX4 := hide hx4
    have HS4 := hide h4
    have HST4 := hide hs4
    clear hx4 h4 hs4 hp4 e7 f7 k19 hv
    go_wp2
    go_end0
    exact pub_end R p { p with topic := t } st w0 w _ t 0 st1 HX1 hlt HST2 (by show _ = _; rw [← unhide HI]) _ s x st3 HO3 HST3 HX3 HP3 w4 l HST4 HS4 HX4
end Go.Proofs.YtpoeakillimibaaGreatDoor.K
/- Proved here: packet's reader: sub. Helper contracts. -/
namespace Go.Proofs.YtpoeakillimibaaGreatDoor.K
open Go.RowKit
set_option maxRecDepth 100000

/-- a subscription -/
structure Sb where
  filter : ByteArray
  qos : Int
  nolocal : Bool
  aspub : Bool
  handling : Int
abbrev Sb.val (s : Sb) : Value := .agg #[.string s.filter, .int .i64 s.qos, .bool s.nolocal, .bool s.aspub, .int .i64 s.handling]
/-- a byte's parts -/
def btest (x k : Int) : Bool := decide (x / k % 2 = 1)
def sbOf (f : ByteArray) (o : Int) : Sb := ⟨f, o % 4, btest o 4, btest o 8, o / 16⟩
def sub? : List Int → Option (Sb × List Int) := bindR text? fun f => bindR one? fun o => bindR (mustR (opk (o % 4) (o / 16))) fun _ => pureR (sbOf f o)
theorem byte_cases {P : Int → Prop} (h : ∀ n : Fin 256, P (n.val : Int)) (x : Int) (h0 : 0 ≤ x) (h1 : x ≤ 255) : P x := by
  obtain ⟨n, rfl⟩ := Int.eq_ofNat_of_zero_le h0
  exact h ⟨n, by omega⟩
theorem and3 (x : Int) (h0 : 0 ≤ x) (h1 : x ≤ 255) : bits .and .i64 x 3 = x % 4 := byte_cases (P := fun x => bits .and .i64 x 3 = x % 4) (by decide +kernel) x h0 h1
theorem and4 (x : Int) (h0 : 0 ≤ x) (h1 : x ≤ 255) : (bits .and .i64 x 4 != 0) = btest x 4 := byte_cases (P := fun x => (bits .and .i64 x 4 != 0) = btest x 4) (by decide +kernel) x h0 h1
theorem and8 (x : Int) (h0 : 0 ≤ x) (h1 : x ≤ 255) : (bits .and .i64 x 8 != 0) = btest x 8 := byte_cases (P := fun x => (bits .and .i64 x 8 != 0) = btest x 8) (by decide +kernel) x h0 h1
theorem sh4 (x : Int) (h0 : 0 ≤ x) (h1 : x ≤ 255) : x >>> 4 = x / 16 := byte_cases (P := fun x => x >>> 4 = x / 16) (by decide +kernel) x h0 h1
/-- a step that tells a subscription -/
def RdSubX (w0 : World) (R : Nat) (X : Nat → Prop) (st : Option (List Int)) (w : World) (e : Ending) (w' : World) : Prop :=
  ∃ (x : Sb) (st' : Option (List Int)), e = .returned x.val ∧ Stp sub? st x st' ∧ RSX w0 w' R X st' ∧ BX R isRE w w'
theorem BX.frz {R : Nat} {may : Nat → Prop} {a b : World} (h : BX R may a b) {p : Addr} (hp : p.block < a.heap.size) (hR : p.block ≠ R) : b.frozen? p = a.frozen? p := World.frozen?_of_block (h.block p.block hp hR)
/-- a return of a subscription that lies in memory -/
theorem res_sub {fn : Func} {a : Tmp} (h : fn.results = #[.cell a 75]) {tmps : Array Value} {w : World} {B : Nat} {v0 v1 v2 v3 v4 : Value} (ha : tmps[a]?.getD undef = .pointer (some ⟨B, 0, none⟩)) (c0 : w.cell? ⟨B, 0, none⟩ = some v0) (c1 : w.cell? ⟨B, 1, none⟩ = some v1) (c2 : w.cell? ⟨B, 2, none⟩ = some v2) (c3 : w.cell? ⟨B, 3, none⟩ = some v3) (c4 : w.cell? ⟨B, 4, none⟩ = some v4) :
    (results fn tmps).run Tryz.prog w = .ok (.agg #[v0, v1, v2, v3, v4]) w := by
  simp [results, h, ha, go_sem, c0, c1, c2, c3, c4]
set_option maxHeartbeats 2000000 in
theorem sub_anyX (R : Nat) (X : Nat → Prop) (st : Option (List Int)) (w0 w : World) (h : RSX w0 w R X st) : Calls Tryz.prog 168 #[.pointer (some ⟨R, 0, none⟩)] w (RdSubX w0 R X st w) := by
  have hlt := h.lt
  have HS := hide h
  clear h
  go_enter Tryz.func168, Tryz.ntmps168
  go_wp2_with fail
  refine (text_anyX R X st w0 _ ((unhide HS).below ((Below.refl _ _).alloc (Nat.le_refl _) _))).mono ?_
  rintro e w1 ⟨f, st1, rfl, hfs, hs1, h1, hx1⟩
  have HS1 := hide h1
  have HX1 := hide hx1
  have HST1 := hide hs1
  clear h1 hx1 hs1
  go_wp2_with fail
  refine (one_anyX R X st1 w0 _ ((unhide HS1).below ((Below.refl _ _).alloc (Nat.le_refl _) _))).mono ?_
  rintro e w2 ⟨o, st2, rfl, ho, hs2, h2, hx2⟩
  have hR1 : R < w1.heap.size := Nat.lt_of_lt_of_le (Nat.lt_succ_of_lt hlt) (by simpa using (unhide HX1).size)
  have hQ1 : w.heap.size < w1.heap.size := by
    have := (unhide HX1).size
    simp at this
    omega
  have v0 := hx2.far (p := ⟨w1.heap.size, 0, none⟩) (v := .string f) (by simp) (by simp; omega)
  have v1 := hx2.far (p := ⟨w1.heap.size, 1, none⟩) (v := .int .i64 0) (by simp) (by simp; omega)
  have v2 := hx2.far (p := ⟨w1.heap.size, 2, none⟩) (v := .bool false) (by simp) (by simp; omega)
  have v3 := hx2.far (p := ⟨w1.heap.size, 3, none⟩) (v := .bool false) (by simp) (by simp; omega)
  have v4 := hx2.far (p := ⟨w1.heap.size, 4, none⟩) (v := .int .i64 0) (by simp) (by simp; omega)
  have u1 : w2.frozen? ⟨w1.heap.size, 1, none⟩ = false := (hx2.frz (p := ⟨w1.heap.size, 1, none⟩) (by simp) (by simp; omega)).trans (by simp)
  have u2 : w2.frozen? ⟨w1.heap.size, 2, none⟩ = false := (hx2.frz (p := ⟨w1.heap.size, 2, none⟩) (by simp) (by simp; omega)).trans (by simp)
  have u3 : w2.frozen? ⟨w1.heap.size, 3, none⟩ = false := (hx2.frz (p := ⟨w1.heap.size, 3, none⟩) (by simp) (by simp; omega)).trans (by simp)
  have u4 : w2.frozen? ⟨w1.heap.size, 4, none⟩ = false := (hx2.frz (p := ⟨w1.heap.size, 4, none⟩) (by simp) (by simp; omega)).trans (by simp)
  have qb : w2.heap[w.heap.size]? = some (.cells #[.string ⟨#[]⟩, .int .i64 0, .bool false, .bool false, .int .i64 0] 75) := by
    rw [hx2.block w.heap.size (by simp; omega) (by omega), ((Below.refl w1.heap.size w1).alloc (Nat.le_refl _) _).block w.heap.size hQ1, (unhide HX1).block w.heap.size (by simp) (by omega)]
    exact Array.getElem?_push_size
  have QB := hide qb
  have b1 := and3 o ho.1 ho.2
  have b2 := and4 o ho.1 ho.2
  have b3 := and8 o ho.1 ho.2
  have b4 := sh4 o ho.1 ho.2
  have HS2 := hide h2
  have HX2 := hide hx2
  have HST2 := hide hs2
  clear h2 hx2 hs2 qb
  have HS3 : Hid (RSX w0 ((((w2.setCell ⟨w1.heap.size, 1, none⟩ (.int .i64 (o % 4))).setCell ⟨w1.heap.size, 4, none⟩ (.int .i64 (o / 16))).setCell ⟨w1.heap.size, 2, none⟩ (.bool (btest o 4))).setCell ⟨w1.heap.size, 3, none⟩ (.bool (btest o 8))) R X st2) := by
    have hne : w1.heap.size ≠ R := by omega
    have h0 := Nat.le_trans (unhide HS1).keep.size (Nat.le_refl _)
    refine ((((unhide HS2).setOut _ 1 _ hne h0 ?_).setOut _ 4 _ hne h0 ?_).setOut _ 2 _ hne h0 ?_).setOut _ 3 _ hne h0 ?_
    · intro t x e; rw [v1] at e; cases e
    all_goals (intro t x e; simp (maxDischargeDepth := 12) [cell_set, v1] at e)
  have HX3 : Hid (BX R isRE w ((((w2.setCell ⟨w1.heap.size, 1, none⟩ (.int .i64 (o % 4))).setCell ⟨w1.heap.size, 4, none⟩ (.int .i64 (o / 16))).setCell ⟨w1.heap.size, 2, none⟩ (.bool (btest o 4))).setCell ⟨w1.heap.size, 3, none⟩ (.bool (btest o 8)))) := by
    have hq := Nat.le_of_lt hQ1
    have k0 : BX R isRE w w2 := ((BX.of_below ((Below.refl _ _).alloc (Nat.le_refl _) _) hlt).trans (unhide HX1)).trans ((BX.of_below ((Below.refl _ _).alloc (Nat.le_refl _) _) hR1).trans (unhide HX2))
    exact (((k0.setOut _ 1 _ hq hlt).setOut _ 4 _ hq hlt).setOut _ 2 _ hq hlt).setOut _ 3 _ hq hlt
  go_wp2_with fail
  refine (optionsOf_any f (o % 4) (btest o 4) (btest o 8) (o / 16) _).mono ?_
  rintro e w3 ⟨rfl, hb3⟩
  have HS4 := hide ((unhide HS3).below hb3)
  have HX4 : Hid (BX R isRE w w3) := (unhide HX3).trans (BX.of_below hb3 (unhide HS3).lt)
  have HB3 := hide hb3
  clear hb3
  go_wp2_with fail
  refine (must_anyX R X _ st2 w0 w3 (unhide HS4)).mono ?_
  rintro e w4 ⟨rfl, h4, hx4⟩
  have vb : w4.heap[w1.heap.size]? = ((((w2.setCell ⟨w1.heap.size, 1, none⟩ (.int .i64 (o % 4))).setCell ⟨w1.heap.size, 4, none⟩ (.int .i64 (o / 16))).setCell ⟨w1.heap.size, 2, none⟩ (.bool (btest o 4))).setCell ⟨w1.heap.size, 3, none⟩ (.bool (btest o 8))).heap[w1.heap.size]? := by
    have hl := cell_lt v0
    rw [hx4.block w1.heap.size (Nat.lt_of_lt_of_le hl (by simpa [World.setCell] using (unhide HB3).size)) (by omega), (unhide HB3).block w1.heap.size (by simpa [World.setCell] using hl)]
  have x0 : w4.cell? ⟨w1.heap.size, 0, none⟩ = some (.string f) := (World.cell?_of_block (a := ⟨w1.heap.size, 0, none⟩) vb).trans (by simp (maxDischargeDepth := 12) [cell_set, v0])
  have x1 : w4.cell? ⟨w1.heap.size, 1, none⟩ = some (.int .i64 (o % 4)) := (World.cell?_of_block (a := ⟨w1.heap.size, 1, none⟩) vb).trans (by simp (maxDischargeDepth := 12) [cell_set, v1])
  have x2 : w4.cell? ⟨w1.heap.size, 2, none⟩ = some (.bool (btest o 4)) := (World.cell?_of_block (a := ⟨w1.heap.size, 2, none⟩) vb).trans (by simp (maxDischargeDepth := 12) [cell_set, v2])
  have x3 : w4.cell? ⟨w1.heap.size, 3, none⟩ = some (.bool (btest o 8)) := (World.cell?_of_block (a := ⟨w1.heap.size, 3, none⟩) vb).trans (by simp (maxDischargeDepth := 12) [cell_set, v3])
  have x4 : w4.cell? ⟨w1.heap.size, 4, none⟩ = some (.int .i64 (o / 16)) := (World.cell?_of_block (a := ⟨w1.heap.size, 4, none⟩) vb).trans (by simp (maxDischargeDepth := 12) [cell_set, v4])
  have qb : w4.heap[w.heap.size]? = some (.cells #[.string ⟨#[]⟩, .int .i64 0, .bool false, .bool false, .int .i64 0] 75) := by
    have hl := Nat.lt_trans hQ1 (cell_lt v0)
    rw [hx4.block w.heap.size (Nat.lt_of_lt_of_le hl (by simpa [World.setCell] using (unhide HB3).size)) (by omega), (unhide HB3).block w.heap.size (by simpa [World.setCell] using hl)]
    rw [Below.heap_setCell _ _ _ _ (by show _ ≠ w1.heap.size; omega), Below.heap_setCell _ _ _ _ (by show _ ≠ w1.heap.size; omega), Below.heap_setCell _ _ _ _ (by show _ ≠ w1.heap.size; omega), Below.heap_setCell _ _ _ _ (by show _ ≠ w1.heap.size; omega)]
    exact unhide QB
  have y0 : w4.cell? ⟨w.heap.size, 0, none⟩ = some (.string ⟨#[]⟩) := by simp [World.cell?, qb]
  have y1 : w4.cell? ⟨w.heap.size, 1, none⟩ = some (.int .i64 0) := by simp [World.cell?, qb]
  have y2 : w4.cell? ⟨w.heap.size, 2, none⟩ = some (.bool false) := by simp [World.cell?, qb]
  have y3 : w4.cell? ⟨w.heap.size, 3, none⟩ = some (.bool false) := by simp [World.cell?, qb]
  have y4 : w4.cell? ⟨w.heap.size, 4, none⟩ = some (.int .i64 0) := by simp [World.cell?, qb]
  have z : ∀ j, w4.frozen? ⟨w.heap.size, j, none⟩ = false := fun j => by simp [World.frozen?, qb]
  have HS5 := hide h4
  have HX5 := hide hx4
  clear h4 hx4 vb qb v0 v1 v2 v3 v4 u1 u2 u3 u4 b1 b2 b3 b4
  go_wp2
  refine bodyPost_ret (res_sub (B := w.heap.size) (v0 := .string f) (v1 := .int .i64 (o % 4)) (v2 := .bool (btest o 4)) (v3 := .bool (btest o 8)) (v4 := .int .i64 (o / 16)) rfl rfl ?c0 ?c1 ?c2 ?c3 ?c4) rfl ?_
  case c0 => simp (maxDischargeDepth := 12) [cell_set, y0]
  case c1 => simp (maxDischargeDepth := 12) [cell_set, y1]
  case c2 => simp (maxDischargeDepth := 12) [cell_set, y2]
  case c3 => simp (maxDischargeDepth := 12) [cell_set, y3]
  case c4 => simp (maxDischargeDepth := 12) [cell_set, y4]
  have hle := Nat.le_refl w.heap.size
  have hne : w.heap.size ≠ R := by omega
  have h0 : w0.heap.size ≤ w.heap.size := (unhide HS).keep.size
  refine ⟨sbOf f o, _, rfl, (unhide HST1).bind ((unhide HST2).bind ((Stp.must _ st2).bind (Stp.pure _ _))), ?_, ((((((unhide HX4).trans (unhide HX5)).setOut _ 0 _ hle hlt).setOut _ 1 _ hle hlt).setOut _ 2 _ hle hlt).setOut _ 3 _ hle hlt).setOut _ 4 _ hle hlt⟩
  refine (((((unhide HS5).setOut _ 0 _ hne h0 ?_).setOut _ 1 _ hne h0 ?_).setOut _ 2 _ hne h0 ?_).setOut _ 3 _ hne h0 ?_).setOut _ 4 _ hne h0 ?_
  · intro t x e; rw [y1] at e; cases e
  all_goals (intro t x e; simp (maxDischargeDepth := 12) [cell_set, y1] at e)
end Go.Proofs.YtpoeakillimibaaGreatDoor.K
/- Proved here: readers that read till the end (many), plainly. Helpers that name no function. -/
namespace Go.Proofs.YtpoeakillimibaaGreatDoor.K
open Go.RowKit

theorem bel_drew (w : World) : Below w.heap.size w w.drew := kbelow_drew w
def many {α : Type} (f : List Int → Option (α × List Int)) : Nat → List Int → Option (List α × List Int)
  | 0, l => if l = [] then some ([], []) else none
  | n + 1, l => if l = [] then some ([], []) else (f l).bind fun r => (many f n r.2).map fun s => (r.1 :: s.1, s.2)
/-- it reads something -/
def Shr {α : Type} (f : List Int → Option (α × List Int)) : Prop := ∀ l x l', f l = some (x, l') → l'.length < l.length
def manyR {α : Type} (f : List Int → Option (α × List Int)) (l : List Int) : Option (List α × List Int) := many f l.length l
theorem many_nil {α : Type} (f : List Int → Option (α × List Int)) (n : Nat) : many f n [] = some ([], []) := by cases n <;> simp [many]
theorem many_fuel {α : Type} {f : List Int → Option (α × List Int)} (hf : Shr f) : ∀ (n m : Nat) (l : List Int), l.length ≤ n → l.length ≤ m → many f n l = many f m l
  | 0, m, l, hn, _ => by
    obtain rfl : l = [] := List.length_eq_zero_iff.1 (by omega)
    rw [many_nil, many_nil]
  | n + 1, 0, l, _, hm => by
    obtain rfl : l = [] := List.length_eq_zero_iff.1 (by omega)
    rw [many_nil, many_nil]
  | n + 1, m + 1, l, hn, hm => by
    unfold many
    by_cases hl : l = []
    · simp [hl]
    · simp only [if_neg hl]
      cases h : f l with
      | none => rfl
      | some r =>
        have := hf l r.1 r.2 h
        simp only [Option.bind_some]
        rw [many_fuel hf n m r.2 (by omega) (by omega)]
theorem manyR_cons {α : Type} {f : List Int → Option (α × List Int)} (hf : Shr f) (l : List Int) (hl : l ≠ []) : manyR f l = (f l).bind fun r => (manyR f r.2).map fun s => (r.1 :: s.1, s.2) := by
  unfold manyR
  obtain ⟨n, hn⟩ : ∃ n, l.length = n + 1 := ⟨l.length - 1, by have := List.length_pos_iff.2 hl; omega⟩
  rw [hn]
  show (if l = [] then _ else _) = _
  rw [if_neg hl]
  cases h : f l with
  | none => rfl
  | some r =>
    have := hf l r.1 r.2 h
    simp only [Option.bind_some]
    rw [many_fuel hf n r.2.length r.2 (by omega) (Nat.le_refl _)]
/-- what was gathered so far -/
def Acc {α : Type} (f : List Int → Option (α × List Int)) (st0 : Option (List Int)) (d : List α) (st : Option (List Int)) : Prop :=
  match st0 with
  | none => st = none
  | some l0 => match st with
    | none => manyR f l0 = none
    | some l => manyR f l0 = (manyR f l).map fun s => (d ++ s.1, s.2)
theorem Acc.start {α : Type} (f : List Int → Option (α × List Int)) (st : Option (List Int)) : Acc f st [] st := by
  cases st with
  | none => rfl
  | some l => simp [Acc]
theorem Acc.step {α : Type} {f : List Int → Option (α × List Int)} {st0 st' : Option (List Int)} {d : List α} {x : α} {l : List Int} (hf : Shr f) (h : Acc f st0 d (some l)) (hs : Stp f (some l) x st') (hl : l ≠ []) : Acc f st0 (d ++ [x]) st' := by
  cases st0 with
  | none => cases h
  | some l0 =>
    unfold Acc at h
    simp only at h
    rw [manyR_cons hf l hl] at h
    unfold Stp at hs
    simp only at hs
    cases hq : f l with
    | none =>
      rw [hq] at hs h
      obtain rfl : st' = none := hs
      simpa [Acc] using h
    | some r =>
      obtain ⟨y, l'⟩ := r
      rw [hq] at hs h
      obtain ⟨rfl, rfl⟩ := hs
      simp only [Option.bind_some, Option.map_map] at h
      show manyR f l0 = _
      rw [h]
      congr 1
      funext s
      simp
theorem Acc.done {α : Type} {f : List Int → Option (α × List Int)} {st0 st : Option (List Int)} {d : List α} (h : Acc f st0 d st) (he : st = none ∨ st = some []) : Stp (manyR f) st0 d st := by
  cases st0 with
  | none => exact h
  | some l0 =>
    rcases he with rfl | rfl
    · have h : manyR f l0 = none := h
      simp [Stp, h]
    · have h : manyR f l0 = (manyR f []).map fun s => (d ++ s.1, s.2) := h
      rw [show manyR f [] = some ([], []) from many_nil f 0] at h
      simp [Stp, h]
theorem one?_shr : Shr one? := by
  intro l x l' h
  cases l with
  | nil => cases h
  | cons a t => simp [one?] at h; obtain ⟨_, rfl⟩ := h; simp
theorem text?_shr : Shr text? := by
  intro l x l' h
  unfold text? gt at h
  by_cases hf : full l = true
  · rw [if_pos hf] at h
    have := full_len l hf
    by_cases hu : utf (sb (gbs l)) = true
    · rw [if_pos hu] at h
      simp only [if_true, Option.some.injEq, Prod.mk.injEq] at h
      obtain ⟨_, rfl⟩ := h
      rw [List.length_drop, Int.toNat_natCast]
      omega
    · rw [if_neg hu] at h
      simp at h
  · rw [if_neg hf] at h
    simp at h
theorem bind_shr {α β : Type} {f : List Int → Option (α × List Int)} {g : α → List Int → Option (β × List Int)} (hf : Shr f) (hg : ∀ x l y l', g x l = some (y, l') → l'.length ≤ l.length) : Shr (bindR f g) := by
  intro l y l' h
  unfold bindR at h
  cases hq : f l with
  | none => rw [hq] at h; cases h
  | some r =>
    rw [hq] at h
    have h1 := hf l r.1 r.2 hq
    have h2 := hg r.1 r.2 y l' h
    omega
theorem sub?_shr : Shr sub? := by
  refine bind_shr text?_shr (fun f l y l' h => ?_)
  refine Nat.le_of_lt (bind_shr one?_shr (fun o l y l' h => ?_) l y l' h)
  unfold bindR mustR at h
  split at h
  · simp [pureR] at h
    rw [h.2]
    exact Nat.le_refl _
  · cases h
theorem stp_len {α : Type} {f : List Int → Option (α × List Int)} (hf : Shr f) {l l' : List Int} {x : α} (h : Stp f (some l) x (some l')) : l'.length < l.length := by
  unfold Stp at h
  simp only at h
  cases hq : f l with
  | none => rw [hq] at h; cases h
  | some r =>
    obtain ⟨y, l2⟩ := r
    rw [hq] at h
    obtain ⟨_, e⟩ := h
    cases e
    exact hf l y l' hq
def list? {α : Type} (f : List Int → Option (α × List Int)) : List Int → Option (List α × List Int) := bindR (manyR f) fun d => bindR (mustR (mc d.length)) fun _ => pureR d
/-- how long the loop goes on at most -/
def mlen (R : Nat) (w : World) : Nat := match w.cell? ⟨R, 20, none⟩ with
  | some .nilIface => match w.cell? ⟨R, 19, none⟩ with
    | some (.slice _ n _) => n + 1
    | _ => 0
  | _ => 0
theorem mlen_some {w0 w : World} {R : Nat} {X : Nat → Prop} {l : List Int} (h : RSX w0 w R X (some l)) : mlen R w = l.length + 1 := by
  obtain ⟨_, _, bv, l', E, hr, hb, _, _, hst⟩ := h
  obtain ⟨ao, cap, rfl, _⟩ := hb.form
  rcases hst with ⟨e, rfl⟩ | ⟨e, _⟩
  · cases e
    unfold mlen
    rw [hr.2.2.1, hr.1]
  · cases e
theorem mlen_none {w0 w : World} {R : Nat} {X : Nat → Prop} (h : RSX w0 w R X none) : mlen R w = 0 := by
  obtain ⟨_, _, bv, l', E, hr, hb, _, _, hst⟩ := h
  rcases hst with ⟨e, _⟩ | ⟨_, d, n, _, he⟩
  · cases e
  · obtain ⟨t, x, rfl⟩ := he.iface
    unfold mlen
    rw [hr.2.2.1]
theorem RSX.err {w0 w : World} {R : Nat} {X : Nat → Prop} {st : Option (List Int)} (h : RSX w0 w R X st) : (∃ l, st = some l ∧ w.cell? ⟨R, 20, none⟩ = some .nilIface) ∨ (st = none ∧ ∃ t x, w.cell? ⟨R, 20, none⟩ = some (.iface t x)) := by
  obtain ⟨_, _, bv, l', E, hr, hb, _, _, hst⟩ := h
  rcases hst with ⟨e, rfl⟩ | ⟨e, d, n, _, he⟩
  · exact .inl ⟨l', e, hr.2.2.1⟩
  · obtain ⟨t, x, rfl⟩ := he.iface
    exact .inr ⟨e, t, x, hr.2.2.1⟩
/-- a row of one's own grows: the reader stays -/
theorem RSX.grown {w0 w w' : World} {R : Nat} {X : Nat → Prop} {st : Option (List Int)} {row : Option Nat} (h : RSX w0 w R X st) (hg : w.grownBy w' row) (hX : ∀ g, row = some g → X g) (hR : row ≠ some R) (h0 : ∀ g, row = some g → w0.heap.size ≤ g) : RSX w0 w' R X st := by
  obtain ⟨hXX, ⟨x, hd⟩, bv, l, E, ⟨r1, r2, r3, r4⟩, hb, hw, hR0, hst⟩ := h
  have hblk : w'.heap[R]? = w.heap[R]? := hg.block R (cell_lt hd) (fun e => hR e.symm)
  have hc : ∀ j, w'.cell? ⟨R, j, none⟩ = w.cell? ⟨R, j, none⟩ := fun j => World.cell?_of_block hblk
  have hf : ∀ j, w'.frozen? ⟨R, j, none⟩ = w.frozen? ⟨R, j, none⟩ := fun j => World.frozen?_of_block hblk
  refine ⟨xs_grow hXX hg.size, ⟨x, (hc 1).trans hd⟩, bv, l, E, ⟨(hc 19).trans r1, (hf 19).trans r2, (hc 20).trans r3, (hf 20).trans r4⟩, hb, ⟨hg.os.trans hw.os, hg.tape.trans hw.tape, hg.output.trans hw.output, Nat.le_trans hw.size hg.size, fun k hk => (hg.block k (Nat.lt_of_lt_of_le hk hw.size) (fun e => by have := h0 k e.symm; omega)).trans (hw.block k hk)⟩, hR0, ?_⟩
  have key : ∀ {d : Nat} {v : Value} {n : Int}, ErO w X d v n → ErO w' X d v n := by
    intro d
    induction d with
    | zero => intro v n h; exact h
    | succ d ih =>
      rintro v n ⟨b, u, h1, hR, h2, h3⟩
      exact ⟨b, u, h1, hR, (World.cell?_of_block (a := ⟨b, 1, none⟩) (hg.block b (cell_lt h2) (fun e => hR (hX b e.symm)))).trans h2, ih h3⟩
  rcases hst with h | ⟨h, d, n, hd, he⟩
  · exact .inl h
  · exact .inr ⟨h, d, n, hd, key he⟩
theorem BX.grown {R : Nat} {may : Nat → Prop} {a b c : World} {row : Option Nat} (h : BX R may a b) (hg : b.grownBy c row) (hrow : ∀ g, row = some g → a.heap.size ≤ g) (hR : R < a.heap.size) : BX R may a c := by
  have hblk : c.heap[R]? = b.heap[R]? := hg.block R (Nat.lt_of_lt_of_le hR h.size) (fun e => by have := hrow R e.symm; omega)
  exact h.trans' ⟨hg.os, hg.tape, hg.output, hg.size, fun k hk _ => hg.block k (Nat.lt_of_lt_of_le hk h.size) (fun e => by have := hrow k e.symm; omega), fun j _ => World.cell?_of_block hblk, fun j => World.frozen?_of_block hblk⟩
theorem Pk.grown {w w' : World} {R : Nat} {p : Pkv} {row : Option Nat} (h : Pk w R p) (hg : w.grownBy w' row) (hR : row ≠ some R) : Pk w' R p := fun j hj => by
  have hblk : w'.heap[R]? = w.heap[R]? := hg.block R (cell_lt (h 0 (by omega)).1) (fun e => hR e.symm)
  exact ⟨(World.cell?_of_block hblk).trans (h j hj).1, (World.frozen?_of_block hblk).trans (h j hj).2⟩
/-- append, at a step of a region that draws its order -/
theorem step_append_run {w : World} {ops : Array Oper} {o : Oper} {a : Act} {K : Act → World → Prop} {Q : Exit → Act → World → Prop} {E : Prop} {Z : Value → World → Prop} (hgd : o.guard = none) (s x : Operand) (t : TypeId)
    (ho : o.op = .call { callee := .builtin .append, args := #[s, x], argTypes := #[t, t] }) (v vx : Value) (hs : a.eval s = v) (hx : a.eval x = vx)
    (hr : ∃ v' w', (Builtin.append_ #[t, t] o.type #[v, vx]).run Tryz.prog w = .ok v' w' ∧ Z v' w') (h : ∀ v' w', Z v' w' → K (a.put o.dst v') w') :
    if Region.wanted o (yielded ops a.tmps) = true then Oper.wp Tryz.prog o a w K Q else E := by
  have hw : Region.wanted o (yielded ops a.tmps) = true := by simp [Region.wanted, hgd]
  rw [if_pos hw]
  obtain ⟨v', w', hr, h2⟩ := hr
  unfold Oper.wp execOp
  simp only [ho, resolve, invoke, builtin, Sem.run_bind, Sem.run_pure, Result.andThen_ok, List.map_toArray, List.map_cons, List.map_nil, hs, hx, hr]
  exact h v' w' h2
end Go.Proofs.YtpoeakillimibaaGreatDoor.K
/- Proved here: packet.connectFlags tells a Connect's flags, and whether they may be. Helper contracts. -/
namespace Go.Proofs.YtpoeakillimibaaGreatDoor.K
open Go.RowKit
set_option maxRecDepth 100000

/-- a will's fields, as the walk tells them -/
structure Wv where
  topic : ByteArray
  payload : ByteArray
  qos : Int
  retain : Bool
  props : Sl
def Wv.cells (u : Wv) : List Value := [.string u.topic, .string u.payload, .int .i64 u.qos, .bool u.retain, u.props.val]
def wcs (ws : List Wv) : List Value := ws.flatMap Wv.cells
/-- a row of cells, read through a slice: s cells each -/
def Rw (w : World) (t : Sl) (s : Nat) (vs : List Value) : Prop := vs.length = t.n * s ∧ (t.n ≤ t.cap ∧ t.cap ≤ maxLen) ∧ (t.n = 0 ∨ ∃ b off, t.ao = some ⟨b, off, none⟩ ∧ ∀ j, j < vs.length → w.cell? ⟨b, off + j, none⟩ = vs[j]?)
theorem Rw.below {w w' : World} {t : Sl} {s : Nat} {vs : List Value} (h : Rw w t s vs) (hb : Below w.heap.size w w') : Rw w' t s vs := by
  obtain ⟨h1, h2, h3⟩ := h
  refine ⟨h1, h2, ?_⟩
  rcases h3 with h3 | ⟨b, off, e, hc⟩
  · exact .inl h3
  · refine .inr ⟨b, off, e, fun j hj => ?_⟩
    have := hc j hj
    rw [List.getElem?_eq_getElem hj] at this
    rw [hb.cell (p := ⟨b, off + j, none⟩) (cell_lt this), List.getElem?_eq_getElem hj]
    exact this
theorem wcs_length (ws : List Wv) : (wcs ws).length = ws.length * 5 := by
  induction ws with
  | nil => rfl
  | cons u us ih => unfold wcs at *; simp only [List.flatMap_cons, List.length_append, ih, List.length_cons, Wv.cells, List.length_nil]; omega
theorem wcs_get (ws : List Wv) : ∀ (i : Nat) (u : Wv), ws[i]? = some u → ∀ j, j < 5 → (wcs ws)[i * 5 + j]? = u.cells[j]? := by
  induction ws with
  | nil => intro i u h; simp at h
  | cons v us ih =>
    intro i u h j hj
    cases i with
    | zero =>
      simp at h
      subst h
      unfold wcs
      rw [List.flatMap_cons, Nat.zero_mul, Nat.zero_add, List.getElem?_append_left (by simp [Wv.cells]; omega)]
    | succ i =>
      simp at h
      have := ih i u h j hj
      unfold wcs at *
      rw [List.flatMap_cons, List.getElem?_append_right (by simp [Wv.cells]; omega), ← this]
      congr 1
      simp [Wv.cells]
      omega
/-- one will's cells -/
theorem Rw.will {w : World} {t : Sl} {ws : List Wv} (h : Rw w t 5 (wcs ws)) (i : Nat) (u : Wv) (hu : ws[i]? = some u) : ∃ b off, t.ao = some ⟨b, off, none⟩ ∧ w.cell? ⟨b, off + i * 5, none⟩ = some (.string u.topic) ∧ w.cell? ⟨b, off + i * 5 + 1, none⟩ = some (.string u.payload) ∧ w.cell? ⟨b, off + i * 5 + 2, none⟩ = some (.int .i64 u.qos) ∧ w.cell? ⟨b, off + i * 5 + 3, none⟩ = some (.bool u.retain) ∧ w.cell? ⟨b, off + i * 5 + 4, none⟩ = some u.props.val := by
  obtain ⟨h1, h2, h3⟩ := h
  have hi : i < ws.length := (List.getElem?_eq_some_iff.1 hu).1
  rw [wcs_length] at h1
  rcases h3 with h3 | ⟨b, off, e, hc⟩
  · omega
  · refine ⟨b, off, e, ?_⟩
    have k : ∀ j, j < 5 → w.cell? ⟨b, off + (i * 5 + j), none⟩ = u.cells[j]? := fun j hj => (hc (i * 5 + j) (by rw [wcs_length]; omega)).trans (wcs_get ws i u hu j hj)
    exact ⟨k 0 (by omega), (by have := k 1 (by omega); rw [← Nat.add_assoc] at this; exact this), (by have := k 2 (by omega); rw [← Nat.add_assoc] at this; exact this), (by have := k 3 (by omega); rw [← Nat.add_assoc] at this; exact this), (by have := k 4 (by omega); rw [← Nat.add_assoc] at this; exact this)⟩
/-- a Connect's flags -/
def cstep (f : Int) (u : Wv) : Int := bits .or .i64 f (bits .or .i64 (bits .or .i64 4 (fv u.retain 32)) (IntKind.i64.wrap (u.qos * 8)))
def cfl0 (nu np : Nat) (clean : Bool) : Int := bits .or .i64 (bits .or .i64 (fv (decide (0 < nu)) 128) (fv (decide (0 < np)) 64)) (fv clean 2)
def cfl (nu np : Nat) (clean : Bool) (ws : List Wv) : Int := ws.foldl cstep (cfl0 nu np clean)
def cok0 (nw nu np : Nat) : Bool := decide (nw ≤ 1) && decide (nu ≤ 1) && decide (np ≤ 1)
def cok (nu np : Nat) (ws : List Wv) : Bool := cok0 ws.length nu np && ws.all fun u => mq u.qos
set_option maxHeartbeats 4000000 in
theorem connectFlags_any (p : Pkv) (ws : List Wv) (w : World) (h : Rw w p.wills 5 (wcs ws)) (hu : p.user.n ≤ maxLen) (hp : p.pass.n ≤ maxLen) : Calls Tryz.prog 137 #[p.val] w fun e w' => e = .returned (.tuple #[.int .i64 (cfl p.user.n p.pass.n p.clean ws), .bool (cok p.user.n p.pass.n ws)]) ∧ Below w.heap.size w w' := by
  obtain ⟨kind, dup, qos, retain, topic, id, payload, ⟨a1, n1, c1⟩, client, clean, keep, ⟨a2, n2, c2⟩, ⟨a3, n3, c3⟩, ⟨a4, n4, c4⟩, code, session, ⟨a5, n5, c5⟩, ⟨a6, n6, c6⟩, ⟨a7, n7, c7⟩⟩ := p
  simp only at h hu hp
  dsimp only [Pkv.val, Sl.val]
  have hn : ws.length = n2 := by have := h.1; rw [wcs_length] at this; simp only at this; omega
  have hcap := h.2.1
  simp only at hcap
  unfold maxLen at hu hp hcap
  have HR := hide h
  clear h
  by_cases l1 : n2 ≤ 1
  · by_cases l2 : n3 ≤ 1
    · go_enter Tryz.func137, Tryz.ntmps137
      go_wp2_with fail
      refine wp_region_noPanic ?_
      refine wp_region_held_drew (S := (fun w' => w'.cell? ⟨w.heap.size, 12, none⟩ = some (.slice a3 n3 c3) ∧ w'.cell? ⟨w.heap.size, 13, none⟩ = some (.slice a4 n4 c4) ∧ w'.cell? ⟨w.heap.size, 9, none⟩ = some (.bool clean))) (by kernel_rfl) (by simp) (fun hHeld => ?_)
      refine rtk 0 (h := ?_)
      refine rtk 1 (h := ?_)
      refine rtk 2 (h := ?_)
      refine rtk 3 (h := ?_)
      refine rtk 5 (h := ?_)
      refine rtk 6 (h := ?_)
      refine rtk 7 (h := ?_)
      refine rtk 8 (h := ?_)
      refine rtk 11 (h := ?_)
      refine rtk 12 (h := ?_)
      refine rcl 4 (h := fun K hK => ?_)
      go_simp
      refine (flag_is _ _ _).mono ?_
      rintro e w2 ⟨rfl, hw2⟩
      obtain rfl := hw2.symm
      clear hw2
      refine hK.out _ _ (by simp) (fun hHeld => ?_)
      clear hK K
      refine rcl 9 (h := fun K hK => ?_)
      go_simp
      refine (flag_is _ _ _).mono ?_
      rintro e w2 ⟨rfl, hw2⟩
      obtain rfl := hw2.symm
      clear hw2
      refine hK.out _ _ (by simp) (fun hHeld => ?_)
      clear hK K
      refine rtk 10 (h := ?_)
      refine rcl 13 (h := fun K hK => ?_)
      go_simp
      refine (flag_is _ _ _).mono ?_
      rintro e w2 ⟨rfl, hw2⟩
      obtain rfl := hw2.symm
      clear hw2
      refine hK.out _ _ (by simp) (fun hHeld => ?_)
      clear hK K
      refine rtk 14 (h := ?_)
      refine rcl 15 (h := fun K hK => ?_)
      go_simp
      refine hK.out _ _ (by simp) (fun hHeld => ?_)
      clear hK K
      refine wpAnyH_done (by kernel_rfl) ?_ _
      refine NoPanic.normal ?_
      go_wp2
      go_loopw [2, 3, 40] (fun f0 o0 i0 wr => ∃ (k : Nat) (bb : Bool) (F : Int), k ≤ n2 ∧ i0 = .int .i64 k ∧ f0 = .int .i64 F ∧ o0 = .bool bb ∧ Hid (F = (ws.take k).foldl cstep (cfl0 n3 n4 clean)) ∧ Hid (bb = (cok0 n2 n3 n4 && (ws.take k).all fun u => mq u.qos)) ∧ Below w.heap.size w wr) (fun _ _ i0 _ => n2 - (intOf i0).toNat)
      case atStart => exact ⟨0, _, _, Nat.zero_le _, rfl, rfl, rfl, rfl, by show _ = _; simp [cok0, l1, l2]; omega, by go_grown⟩
      case round =>
        obtain ⟨k, bb, F, hk, rfl, rfl, rfl, HF, HO, hbel⟩ := hrel
        by_cases hkn : k = n2
        · subst hkn
          have e1 : ws.take k = ws := List.take_of_length_le (by omega)
          have HB := hide hbel
          clear hbel
          go_wp2
          go_returns
          rw [e1] at HF HO
          exact ⟨by rw [unhide HF, unhide HO, ← hn]; rfl, unhide HB⟩
        · have hlt : k < ws.length := by omega
          obtain ⟨u, hu⟩ : ∃ u, ws[k]? = some u := ⟨_, List.getElem?_eq_getElem hlt⟩
          have e1 : ws.take (k + 1) = ws.take k ++ [u] := by rw [List.take_add_one, hu]; rfl
          obtain ⟨b, off, ha, t0, t1, t2, t3, t4⟩ := ((unhide HR).below (hbel)).will k u hu
          simp only at ha
          subst ha
          have hF : Hid (cstep F u = (ws.take (k + 1)).foldl cstep (cfl0 n3 n4 clean)) := by show _ = _; rw [e1, List.foldl_append, unhide HF]; rfl
          have hO : (cok0 n2 n3 n4 && (ws.take (k + 1)).all fun u => mq u.qos) = (bb && mq u.qos) := by rw [e1, List.all_append, unhide HO]; simp [Bool.and_assoc]
          have HO2 := hide hO
          clear hO
          have HB2 : Hid (Below w.heap.size w (wr.alloc (.cells #[.string u.topic, .string u.payload, .int .i64 u.qos, .bool u.retain, u.props.val] 73)).drew) := (hbel.alloc hbel.size _).drew
          cases bb
          · go_wp2_with fail
            refine wp_region_noPanic ?_
            refine wp_region_held_drew (S := (fun w' => w'.cell? ⟨wr.heap.size, 3, none⟩ = some (.bool u.retain) ∧ w'.cell? ⟨wr.heap.size, 2, none⟩ = some (.int .i64 u.qos))) (by kernel_rfl) (by simp) (fun hHeld => ?_)
            refine rtk 0 (h := ?_)
            refine rtk 1 (h := ?_)
            refine rtk 2 (h := ?_)
            refine rtk 5 (h := ?_)
            refine rtk 6 (h := ?_)
            refine rtk 7 (h := ?_)
            refine rcl 3 (h := fun K hK => ?_)
            go_simp
            refine (flag_is _ _ _).mono ?_
            rintro e w2 ⟨rfl, hw2⟩
            obtain rfl := hw2.symm
            clear hw2
            refine hK.out _ _ (by simp) (fun hHeld => ?_)
            clear hK K
            refine rtk 4 (h := ?_)
            refine rtk 8 (h := ?_)
            refine rtk 9 (h := ?_)
            refine rcl 10 (h := fun K hK => ?_)
            go_simp
            refine hK.out _ _ (by simp) (fun hHeld => ?_)
            clear hK K
            refine wpAnyH_done (by kernel_rfl) ?_ _
            refine NoPanic.normal ?_
            go_wp2
            go_roundw
            case rel => exact ⟨k + 1, false, _, by omega, by go_num, rfl, rfl, hF, by show _ = _; rw [unhide HO2]; rfl, unhide HB2⟩
            case measure => simp [intOf]; omega
          · go_wp2_with fail
            refine (mayQoS_is u.qos _ rfl _).mono ?_
            rintro e w1 ⟨rfl, hw1⟩
            obtain rfl := hw1.symm
            clear hw1
            go_wp2_with fail
            refine wp_region_noPanic ?_
            refine wp_region_held_drew (S := (fun w' => w'.cell? ⟨wr.heap.size, 3, none⟩ = some (.bool u.retain) ∧ w'.cell? ⟨wr.heap.size, 2, none⟩ = some (.int .i64 u.qos))) (by kernel_rfl) (by simp) (fun hHeld => ?_)
            refine rtk 0 (h := ?_)
            refine rtk 1 (h := ?_)
            refine rtk 2 (h := ?_)
            refine rtk 5 (h := ?_)
            refine rtk 6 (h := ?_)
            refine rtk 7 (h := ?_)
            refine rcl 3 (h := fun K hK => ?_)
            go_simp
            refine (flag_is _ _ _).mono ?_
            rintro e w2 ⟨rfl, hw2⟩
            obtain rfl := hw2.symm
            clear hw2
            refine hK.out _ _ (by simp) (fun hHeld => ?_)
            clear hK K
            refine rtk 4 (h := ?_)
            refine rtk 8 (h := ?_)
            refine rtk 9 (h := ?_)
            refine rcl 10 (h := fun K hK => ?_)
            go_simp
            refine hK.out _ _ (by simp) (fun hHeld => ?_)
            clear hK K
            refine wpAnyH_done (by kernel_rfl) ?_ _
            refine NoPanic.normal ?_
            go_wp2
            go_roundw
            case rel => exact ⟨k + 1, mq u.qos, _, by omega, by go_num, rfl, rfl, hF, by show _ = _; rw [unhide HO2]; rfl, unhide HB2⟩
            case measure => simp [intOf]; omega
    · go_enter Tryz.func137, Tryz.ntmps137
      go_wp2_with fail
      refine wp_region_noPanic ?_
      refine wp_region_held_drew (S := (fun w' => w'.cell? ⟨w.heap.size, 12, none⟩ = some (.slice a3 n3 c3) ∧ w'.cell? ⟨w.heap.size, 13, none⟩ = some (.slice a4 n4 c4) ∧ w'.cell? ⟨w.heap.size, 9, none⟩ = some (.bool clean))) (by kernel_rfl) (by simp) (fun hHeld => ?_)
      refine rtk 0 (h := ?_)
      refine rtk 1 (h := ?_)
      refine rtk 2 (h := ?_)
      refine rtk 3 (h := ?_)
      refine rtk 5 (h := ?_)
      refine rtk 6 (h := ?_)
      refine rtk 7 (h := ?_)
      refine rtk 8 (h := ?_)
      refine rtk 11 (h := ?_)
      refine rtk 12 (h := ?_)
      refine rcl 4 (h := fun K hK => ?_)
      go_simp
      refine (flag_is _ _ _).mono ?_
      rintro e w2 ⟨rfl, hw2⟩
      obtain rfl := hw2.symm
      clear hw2
      refine hK.out _ _ (by simp) (fun hHeld => ?_)
      clear hK K
      refine rcl 9 (h := fun K hK => ?_)
      go_simp
      refine (flag_is _ _ _).mono ?_
      rintro e w2 ⟨rfl, hw2⟩
      obtain rfl := hw2.symm
      clear hw2
      refine hK.out _ _ (by simp) (fun hHeld => ?_)
      clear hK K
      refine rtk 10 (h := ?_)
      refine rcl 13 (h := fun K hK => ?_)
      go_simp
      refine (flag_is _ _ _).mono ?_
      rintro e w2 ⟨rfl, hw2⟩
      obtain rfl := hw2.symm
      clear hw2
      refine hK.out _ _ (by simp) (fun hHeld => ?_)
      clear hK K
      refine rtk 14 (h := ?_)
      refine rcl 15 (h := fun K hK => ?_)
      go_simp
      refine hK.out _ _ (by simp) (fun hHeld => ?_)
      clear hK K
      refine wpAnyH_done (by kernel_rfl) ?_ _
      refine NoPanic.normal ?_
      go_wp2
      go_loopw [2, 3, 40] (fun f0 o0 i0 wr => ∃ (k : Nat) (bb : Bool) (F : Int), k ≤ n2 ∧ i0 = .int .i64 k ∧ f0 = .int .i64 F ∧ o0 = .bool bb ∧ Hid (F = (ws.take k).foldl cstep (cfl0 n3 n4 clean)) ∧ Hid (bb = (cok0 n2 n3 n4 && (ws.take k).all fun u => mq u.qos)) ∧ Below w.heap.size w wr) (fun _ _ i0 _ => n2 - (intOf i0).toNat)
      case atStart => exact ⟨0, _, _, Nat.zero_le _, rfl, rfl, rfl, rfl, by show _ = _; simp [cok0, l2], by go_grown⟩
      case round =>
        obtain ⟨k, bb, F, hk, rfl, rfl, rfl, HF, HO, hbel⟩ := hrel
        by_cases hkn : k = n2
        · subst hkn
          have e1 : ws.take k = ws := List.take_of_length_le (by omega)
          have HB := hide hbel
          clear hbel
          go_wp2
          go_returns
          rw [e1] at HF HO
          exact ⟨by rw [unhide HF, unhide HO, ← hn]; rfl, unhide HB⟩
        · have hlt : k < ws.length := by omega
          obtain ⟨u, hu⟩ : ∃ u, ws[k]? = some u := ⟨_, List.getElem?_eq_getElem hlt⟩
          have e1 : ws.take (k + 1) = ws.take k ++ [u] := by rw [List.take_add_one, hu]; rfl
          obtain ⟨b, off, ha, t0, t1, t2, t3, t4⟩ := ((unhide HR).below (hbel)).will k u hu
          simp only at ha
          subst ha
          have hF : Hid (cstep F u = (ws.take (k + 1)).foldl cstep (cfl0 n3 n4 clean)) := by show _ = _; rw [e1, List.foldl_append, unhide HF]; rfl
          have hO : (cok0 n2 n3 n4 && (ws.take (k + 1)).all fun u => mq u.qos) = (bb && mq u.qos) := by rw [e1, List.all_append, unhide HO]; simp [Bool.and_assoc]
          have HO2 := hide hO
          clear hO
          have HB2 : Hid (Below w.heap.size w (wr.alloc (.cells #[.string u.topic, .string u.payload, .int .i64 u.qos, .bool u.retain, u.props.val] 73)).drew) := (hbel.alloc hbel.size _).drew
          cases bb
          · go_wp2_with fail
            refine wp_region_noPanic ?_
            refine wp_region_held_drew (S := (fun w' => w'.cell? ⟨wr.heap.size, 3, none⟩ = some (.bool u.retain) ∧ w'.cell? ⟨wr.heap.size, 2, none⟩ = some (.int .i64 u.qos))) (by kernel_rfl) (by simp) (fun hHeld => ?_)
            refine rtk 0 (h := ?_)
            refine rtk 1 (h := ?_)
            refine rtk 2 (h := ?_)
            refine rtk 5 (h := ?_)
            refine rtk 6 (h := ?_)
            refine rtk 7 (h := ?_)
            refine rcl 3 (h := fun K hK => ?_)
            go_simp
            refine (flag_is _ _ _).mono ?_
            rintro e w2 ⟨rfl, hw2⟩
            obtain rfl := hw2.symm
            clear hw2
            refine hK.out _ _ (by simp) (fun hHeld => ?_)
            clear hK K
            refine rtk 4 (h := ?_)
            refine rtk 8 (h := ?_)
            refine rtk 9 (h := ?_)
            refine rcl 10 (h := fun K hK => ?_)
            go_simp
            refine hK.out _ _ (by simp) (fun hHeld => ?_)
            clear hK K
            refine wpAnyH_done (by kernel_rfl) ?_ _
            refine NoPanic.normal ?_
            go_wp2
            go_roundw
            case rel => exact ⟨k + 1, false, _, by omega, by go_num, rfl, rfl, hF, by show _ = _; rw [unhide HO2]; rfl, unhide HB2⟩
            case measure => simp [intOf]; omega
          · go_wp2_with fail
            refine (mayQoS_is u.qos _ rfl _).mono ?_
            rintro e w1 ⟨rfl, hw1⟩
            obtain rfl := hw1.symm
            clear hw1
            go_wp2_with fail
            refine wp_region_noPanic ?_
            refine wp_region_held_drew (S := (fun w' => w'.cell? ⟨wr.heap.size, 3, none⟩ = some (.bool u.retain) ∧ w'.cell? ⟨wr.heap.size, 2, none⟩ = some (.int .i64 u.qos))) (by kernel_rfl) (by simp) (fun hHeld => ?_)
            refine rtk 0 (h := ?_)
            refine rtk 1 (h := ?_)
            refine rtk 2 (h := ?_)
            refine rtk 5 (h := ?_)
            refine rtk 6 (h := ?_)
            refine rtk 7 (h := ?_)
            refine rcl 3 (h := fun K hK => ?_)
            go_simp
            refine (flag_is _ _ _).mono ?_
            rintro e w2 ⟨rfl, hw2⟩
            obtain rfl := hw2.symm
            clear hw2
            refine hK.out _ _ (by simp) (fun hHeld => ?_)
            clear hK K
            refine rtk 4 (h := ?_)
            refine rtk 8 (h := ?_)
            refine rtk 9 (h := ?_)
            refine rcl 10 (h := fun K hK => ?_)
            go_simp
            refine hK.out _ _ (by simp) (fun hHeld => ?_)
            clear hK K
            refine wpAnyH_done (by kernel_rfl) ?_ _
            refine NoPanic.normal ?_
            go_wp2
            go_roundw
            case rel => exact ⟨k + 1, mq u.qos, _, by omega, by go_num, rfl, rfl, hF, by show _ = _; rw [unhide HO2]; rfl, unhide HB2⟩
            case measure => simp [intOf]; omega
  · go_enter Tryz.func137, Tryz.ntmps137
    go_wp2_with fail
    refine wp_region_noPanic ?_
    refine wp_region_held_drew (S := (fun w' => w'.cell? ⟨w.heap.size, 12, none⟩ = some (.slice a3 n3 c3) ∧ w'.cell? ⟨w.heap.size, 13, none⟩ = some (.slice a4 n4 c4) ∧ w'.cell? ⟨w.heap.size, 9, none⟩ = some (.bool clean))) (by kernel_rfl) (by simp) (fun hHeld => ?_)
    refine rtk 0 (h := ?_)
    refine rtk 1 (h := ?_)
    refine rtk 2 (h := ?_)
    refine rtk 3 (h := ?_)
    refine rtk 5 (h := ?_)
    refine rtk 6 (h := ?_)
    refine rtk 7 (h := ?_)
    refine rtk 8 (h := ?_)
    refine rtk 11 (h := ?_)
    refine rtk 12 (h := ?_)
    refine rcl 4 (h := fun K hK => ?_)
    go_simp
    refine (flag_is _ _ _).mono ?_
    rintro e w2 ⟨rfl, hw2⟩
    obtain rfl := hw2.symm
    clear hw2
    refine hK.out _ _ (by simp) (fun hHeld => ?_)
    clear hK K
    refine rcl 9 (h := fun K hK => ?_)
    go_simp
    refine (flag_is _ _ _).mono ?_
    rintro e w2 ⟨rfl, hw2⟩
    obtain rfl := hw2.symm
    clear hw2
    refine hK.out _ _ (by simp) (fun hHeld => ?_)
    clear hK K
    refine rtk 10 (h := ?_)
    refine rcl 13 (h := fun K hK => ?_)
    go_simp
    refine (flag_is _ _ _).mono ?_
    rintro e w2 ⟨rfl, hw2⟩
    obtain rfl := hw2.symm
    clear hw2
    refine hK.out _ _ (by simp) (fun hHeld => ?_)
    clear hK K
    refine rtk 14 (h := ?_)
    refine rcl 15 (h := fun K hK => ?_)
    go_simp
    refine hK.out _ _ (by simp) (fun hHeld => ?_)
    clear hK K
    refine wpAnyH_done (by kernel_rfl) ?_ _
    refine NoPanic.normal ?_
    go_wp2
    go_loopw [2, 3, 40] (fun f0 o0 i0 wr => ∃ (k : Nat) (bb : Bool) (F : Int), k ≤ n2 ∧ i0 = .int .i64 k ∧ f0 = .int .i64 F ∧ o0 = .bool bb ∧ Hid (F = (ws.take k).foldl cstep (cfl0 n3 n4 clean)) ∧ Hid (bb = (cok0 n2 n3 n4 && (ws.take k).all fun u => mq u.qos)) ∧ Below w.heap.size w wr) (fun _ _ i0 _ => n2 - (intOf i0).toNat)
    case atStart => exact ⟨0, _, _, Nat.zero_le _, rfl, rfl, rfl, rfl, by show _ = _; simp [cok0, l1], by go_grown⟩
    case round =>
      obtain ⟨k, bb, F, hk, rfl, rfl, rfl, HF, HO, hbel⟩ := hrel
      by_cases hkn : k = n2
      · subst hkn
        have e1 : ws.take k = ws := List.take_of_length_le (by omega)
        have HB := hide hbel
        clear hbel
        go_wp2
        go_returns
        rw [e1] at HF HO
        exact ⟨by rw [unhide HF, unhide HO, ← hn]; rfl, unhide HB⟩
      · have hlt : k < ws.length := by omega
        obtain ⟨u, hu⟩ : ∃ u, ws[k]? = some u := ⟨_, List.getElem?_eq_getElem hlt⟩
        have e1 : ws.take (k + 1) = ws.take k ++ [u] := by rw [List.take_add_one, hu]; rfl
        obtain ⟨b, off, ha, t0, t1, t2, t3, t4⟩ := ((unhide HR).below (hbel)).will k u hu
        simp only at ha
        subst ha
        have hF : Hid (cstep F u = (ws.take (k + 1)).foldl cstep (cfl0 n3 n4 clean)) := by show _ = _; rw [e1, List.foldl_append, unhide HF]; rfl
        have hO : (cok0 n2 n3 n4 && (ws.take (k + 1)).all fun u => mq u.qos) = (bb && mq u.qos) := by rw [e1, List.all_append, unhide HO]; simp [Bool.and_assoc]
        have HO2 := hide hO
        clear hO
        have HB2 : Hid (Below w.heap.size w (wr.alloc (.cells #[.string u.topic, .string u.payload, .int .i64 u.qos, .bool u.retain, u.props.val] 73)).drew) := (hbel.alloc hbel.size _).drew
        cases bb
        · go_wp2_with fail
          refine wp_region_noPanic ?_
          refine wp_region_held_drew (S := (fun w' => w'.cell? ⟨wr.heap.size, 3, none⟩ = some (.bool u.retain) ∧ w'.cell? ⟨wr.heap.size, 2, none⟩ = some (.int .i64 u.qos))) (by kernel_rfl) (by simp) (fun hHeld => ?_)
          refine rtk 0 (h := ?_)
          refine rtk 1 (h := ?_)
          refine rtk 2 (h := ?_)
          refine rtk 5 (h := ?_)
          refine rtk 6 (h := ?_)
          refine rtk 7 (h := ?_)
          refine rcl 3 (h := fun K hK => ?_)
          go_simp
          refine (flag_is _ _ _).mono ?_
          rintro e w2 ⟨rfl, hw2⟩
          obtain rfl := hw2.symm
          clear hw2
          refine hK.out _ _ (by simp) (fun hHeld => ?_)
          clear hK K
          refine rtk 4 (h := ?_)
          refine rtk 8 (h := ?_)
          refine rtk 9 (h := ?_)
          refine rcl 10 (h := fun K hK => ?_)
          go_simp
          refine hK.out _ _ (by simp) (fun hHeld => ?_)
          clear hK K
          refine wpAnyH_done (by kernel_rfl) ?_ _
          refine NoPanic.normal ?_
          go_wp2
          go_roundw
          case rel => exact ⟨k + 1, false, _, by omega, by go_num, rfl, rfl, hF, by show _ = _; rw [unhide HO2]; rfl, unhide HB2⟩
          case measure => simp [intOf]; omega
        · go_wp2_with fail
          refine (mayQoS_is u.qos _ rfl _).mono ?_
          rintro e w1 ⟨rfl, hw1⟩
          obtain rfl := hw1.symm
          clear hw1
          go_wp2_with fail
          refine wp_region_noPanic ?_
          refine wp_region_held_drew (S := (fun w' => w'.cell? ⟨wr.heap.size, 3, none⟩ = some (.bool u.retain) ∧ w'.cell? ⟨wr.heap.size, 2, none⟩ = some (.int .i64 u.qos))) (by kernel_rfl) (by simp) (fun hHeld => ?_)
          refine rtk 0 (h := ?_)
          refine rtk 1 (h := ?_)
          refine rtk 2 (h := ?_)
          refine rtk 5 (h := ?_)
          refine rtk 6 (h := ?_)
          refine rtk 7 (h := ?_)
          refine rcl 3 (h := fun K hK => ?_)
          go_simp
          refine (flag_is _ _ _).mono ?_
          rintro e w2 ⟨rfl, hw2⟩
          obtain rfl := hw2.symm
          clear hw2
          refine hK.out _ _ (by simp) (fun hHeld => ?_)
          clear hK K
          refine rtk 4 (h := ?_)
          refine rtk 8 (h := ?_)
          refine rtk 9 (h := ?_)
          refine rcl 10 (h := fun K hK => ?_)
          go_simp
          refine hK.out _ _ (by simp) (fun hHeld => ?_)
          clear hK K
          refine wpAnyH_done (by kernel_rfl) ?_ _
          refine NoPanic.normal ?_
          go_wp2
          go_roundw
          case rel => exact ⟨k + 1, mq u.qos, _, by omega, by go_num, rfl, rfl, hF, by show _ = _; rw [unhide HO2]; rfl, unhide HB2⟩
          case measure => simp [intOf]; omega
end Go.Proofs.YtpoeakillimibaaGreatDoor.K
/- Proved here: append(two bytes, make([]byte, n)...) at n = 0, 1, 2. Helpers. -/
namespace Go.Proofs.YtpoeakillimibaaGreatDoor.K
open Go.RowKit
set_option maxRecDepth 100000

theorem wpList_append_run (w : World) {ops : Array Oper} {rest : List Oper} {o : Oper} {a : Act} {Q : Exit → Act → World → Prop} {Z : Value → World → Prop} (hgd : o.guard = none) (s x : Operand) (t u : TypeId)
    (ho : o.op = .call { callee := .builtin .append, args := #[s, x], argTypes := #[t, u] }) (v vx : Value) (hs : a.eval s = v) (hx : a.eval x = vx)
    (hr : ∃ v' w', (Builtin.append_ #[t, u] o.type #[v, vx]).run Tryz.prog w = .ok v' w' ∧ Z v' w')
    (h : ∀ v' w', Z v' w' → wpList Tryz.prog ops Q rest (a.put o.dst v') w') : wpList Tryz.prog ops Q (o :: rest) a w := by
  refine wpList_plain hgd fun K hK => ?_
  obtain ⟨v', w', hr, h2⟩ := hr
  unfold Oper.wp execOp
  simp only [ho, resolve, invoke, builtin, Sem.run_bind, Sem.run_pure, Result.andThen_ok, List.map_toArray, List.map_cons, List.map_nil, hs, hx, hr]
  exact hK _ _ (h v' w' h2)
end Go.Proofs.YtpoeakillimibaaGreatDoor.K
/- Proved here: packet.measure tells where a packet's body begins and ends. Helper contracts. -/
namespace Go.Proofs.YtpoeakillimibaaGreatDoor.K
open Go.RowKit
set_option maxRecDepth 100000

/-- where the body begins, where it ends, the error's number -/
def meas (l : List Int) : Nat × Nat × Int :=
  if (V.vget (l.drop 1)).2.2 ≠ 0 then (0, 0, (V.vget (l.drop 1)).2.2)
  else if 65536 < 1 + ghd (l.drop 1) + (gid (l.drop 1)).toNat then (0, 0, 2)
  else if l.length < 1 + ghd (l.drop 1) + (gid (l.drop 1)).toNat then (0, 0, 3)
  else (1 + ghd (l.drop 1), 1 + ghd (l.drop 1) + (gid (l.drop 1)).toNat, 0)
def MeasPost (l : List Int) (w : World) (e : Ending) (w' : World) : Prop :=
  ∃ E, e = .returned (.tuple #[.int .i64 ((meas l).1 : Nat), .int .i64 ((meas l).2.1 : Nat), E]) ∧ Hid (((meas l).2.2 = 0 ∧ E = .nilIface) ∨ ((meas l).2.2 ≠ 0 ∧ ErP w' E (meas l).2.2)) ∧ Below w.heap.size w w'
theorem er_of_inn {w : World} {v : Value} {n : Int} (h : Inn w v n) : ∃ d, d ≤ 2 ∧ Er w d v n := by
  rcases h with h | ⟨b, h1, h2⟩
  · exact ⟨0, by omega, h⟩
  · exact ⟨1, by omega, b, _, h1, h2, rfl⟩
set_option maxHeartbeats 2000000 in
theorem measure_any (v : Value) (l : List Int) (w : World) (h : Byt w v l) (hl : l ≠ []) : Calls Tryz.prog 70 #[v] w (MeasPost l w) := by
  have hl1 : 1 ≤ l.length := List.length_pos_iff.2 hl
  obtain ⟨b, off, cap, rfl, hc1, hc2⟩ := h.form1 hl1
  unfold maxLen at hc2
  have hmd : ∀ (N K : Nat), gid (l.drop 1) = N → ghd (l.drop 1) = K → (V.vget (l.drop 1)).2.2 = 0 → meas l = if 65536 < 1 + K + N then (0, 0, 2) else if l.length < 1 + K + N then (0, 0, 3) else (1 + K, 1 + K + N, 0) := fun N K e1 e2 e3 => by
    unfold meas
    rw [if_neg (by rw [e3]; decide), e1, e2, Int.toNat_natCast]
  have hme : (V.vget (l.drop 1)).2.2 ≠ 0 → meas l = (0, 0, (V.vget (l.drop 1)).2.2) := fun e => by
    unfold meas
    rw [if_pos e]
  have key : ∀ t : Value, Byt w t (l.drop 1) → (V.vget (l.drop 1)).2.2 = 0 → ∃ (N K : Nat), gid (l.drop 1) = N ∧ ghd (l.drop 1) = K ∧ K ≤ 4 ∧ N ≤ 268435455 ∧ V.vget (l.drop 1) = ((N : Int), (K : Int), 0) := fun t ht hv => by
    obtain ⟨hv', h1, h2, h3, h4, h5⟩ := vget_is (l.drop 1) ht.range hv
    have hQ4 := ghd_le (l.drop 1) h2 h5
    obtain ⟨N, hN⟩ : ∃ N : Nat, gid (l.drop 1) = N := ⟨(gid (l.drop 1)).toNat, by omega⟩
    exact ⟨N, ghd (l.drop 1), hN, rfl, hQ4, by omega, by rw [hv', hN]⟩
  have HDR := hide (h.drop' 1 hl1)
  have HMD := hide hmd
  have HME := hide hme
  have HKEY := hide key
  clear h hmd hme key hl
  generalize hn : l.length = n at hc1 hl1 HDR HMD
  have HN := hide hn
  clear hn
  by_cases hcap : cap = 1
  · subst hcap
    obtain rfl : n = 1 := by omega
    have HT : Hid (Byt w (.slice (some ⟨b, off, none⟩) 0 0) (l.drop 1)) := by
      show Byt _ _ _
      have k := unhide HDR
      rw [if_pos rfl, Nat.sub_self] at k
      exact k
    clear HDR
    by_cases hv : (V.vget (l.drop 1)).2.2 = 0
    · obtain ⟨N, K, e1, e2, hK, hN2, hvg⟩ := (unhide HKEY) _ (unhide HT) hv
      have HM := hide ((unhide HMD) N K e1 e2 hv)
      have HV := hide hvg
      clear hvg e1 e2 hv HMD HME HKEY
      have HG := hide (vget_good _ (l.drop 1) w (unhide HT) N K (unhide HV))
      by_cases h1 : 65536 < 1 + K + N
      · rw [if_pos h1] at HM
        go_enter Tryz.func70, Tryz.ntmps70
        go_wp2_with fail
        refine (unhide HG).mono ?_
        rintro e w1 ⟨rfl, hb1⟩
        have HB1 := hide hb1
        clear hb1
        go_wp2_with fail
        refine (pf_use 2 _).mono ?_
        rintro e w2 ⟨x, rfl, hE, hb2⟩
        have HB2 : Hid (Below w.heap.size w w2) := (unhide HB1).trans (hb2.mono (unhide HB1).size)
        clear hb2
        go_wp2
        go_returns
        unfold MeasPost
        rw [unhide HM]
        exact ⟨_, rfl, .inr ⟨by decide, unhide hE⟩, unhide HB2⟩
      · rw [if_neg h1] at HM
        by_cases h2 : 1 < 1 + K + N
        · rw [if_pos h2] at HM
          go_enter Tryz.func70, Tryz.ntmps70
          go_wp2_with fail
          refine (unhide HG).mono ?_
          rintro e w1 ⟨rfl, hb1⟩
          have HB1 := hide hb1
          clear hb1
          go_wp2_with fail
          refine (pf_use 3 _).mono ?_
          rintro e w2 ⟨x, rfl, hE, hb2⟩
          have HB2 : Hid (Below w.heap.size w w2) := (unhide HB1).trans (hb2.mono (unhide HB1).size)
          clear hb2
          go_wp2
          go_returns
          unfold MeasPost
          rw [unhide HM]
          exact ⟨_, rfl, .inr ⟨by decide, unhide hE⟩, unhide HB2⟩
        · rw [if_neg h2] at HM
          go_enter Tryz.func70, Tryz.ntmps70
          go_wp2_with fail
          refine (unhide HG).mono ?_
          rintro e w1 ⟨rfl, hb1⟩
          have HB1 := hide hb1
          clear hb1
          go_wp2
          go_returns
          unfold MeasPost
          rw [unhide HM]
          exact ⟨_, by go_num, .inl ⟨rfl, rfl⟩, unhide HB1⟩
    · have HM := hide ((unhide HME) hv)
      generalize hm : (V.vget (l.drop 1)).2.2 = m at hv HM
      have HG := hide (vget_fail _ (l.drop 1) w (unhide HT) m hm hv)
      clear hm HMD HME HKEY
      go_enter Tryz.func70, Tryz.ntmps70
      go_wp2_with fail
      refine (unhide HG).mono ?_
      rintro e w1 ⟨a1, a2, x, rfl, hi, hb1⟩
      have HB1 := hide hb1
      clear hb1
      obtain ⟨d, hd, he⟩ := er_of_inn (unhide hi)
      have HE1 := hide he
      clear he
      go_wp2_with fail
      refine (pw_use d hd _ m _ (unhide HE1)).mono ?_
      rintro e w2 ⟨y, rfl, hE, hb2⟩
      have HB2 : Hid (Below w.heap.size w w2) := (unhide HB1).trans (hb2.mono (unhide HB1).size)
      clear hb2
      go_wp2
      go_returns
      unfold MeasPost
      rw [unhide HM]
      exact ⟨_, rfl, .inr ⟨hv, unhide hE⟩, unhide HB2⟩
  · have HT : Hid (Byt w (.slice (some ⟨b, off + 1, none⟩) (n - 1) (cap - 1)) (l.drop 1)) := by
      show Byt _ _ _
      have k := unhide HDR
      rw [if_neg hcap] at k
      exact k
    clear HDR
    by_cases hv : (V.vget (l.drop 1)).2.2 = 0
    · obtain ⟨N, K, e1, e2, hK, hN2, hvg⟩ := (unhide HKEY) _ (unhide HT) hv
      have HM := hide ((unhide HMD) N K e1 e2 hv)
      have HV := hide hvg
      clear hvg e1 e2 hv HMD HME HKEY
      have HG := hide (vget_good _ (l.drop 1) w (unhide HT) N K (unhide HV))
      by_cases h1 : 65536 < 1 + K + N
      · rw [if_pos h1] at HM
        go_enter Tryz.func70, Tryz.ntmps70
        go_wp2_with fail
        refine (unhide HG).mono ?_
        rintro e w1 ⟨rfl, hb1⟩
        have HB1 := hide hb1
        clear hb1
        go_wp2_with fail
        refine (pf_use 2 _).mono ?_
        rintro e w2 ⟨x, rfl, hE, hb2⟩
        have HB2 : Hid (Below w.heap.size w w2) := (unhide HB1).trans (hb2.mono (unhide HB1).size)
        clear hb2
        go_wp2
        go_returns
        unfold MeasPost
        rw [unhide HM]
        exact ⟨_, rfl, .inr ⟨by decide, unhide hE⟩, unhide HB2⟩
      · rw [if_neg h1] at HM
        by_cases h2 : n < 1 + K + N
        · rw [if_pos h2] at HM
          go_enter Tryz.func70, Tryz.ntmps70
          go_wp2_with fail
          refine (unhide HG).mono ?_
          rintro e w1 ⟨rfl, hb1⟩
          have HB1 := hide hb1
          clear hb1
          go_wp2_with fail
          refine (pf_use 3 _).mono ?_
          rintro e w2 ⟨x, rfl, hE, hb2⟩
          have HB2 : Hid (Below w.heap.size w w2) := (unhide HB1).trans (hb2.mono (unhide HB1).size)
          clear hb2
          go_wp2
          go_returns
          unfold MeasPost
          rw [unhide HM]
          exact ⟨_, rfl, .inr ⟨by decide, unhide hE⟩, unhide HB2⟩
        · rw [if_neg h2] at HM
          go_enter Tryz.func70, Tryz.ntmps70
          go_wp2_with fail
          refine (unhide HG).mono ?_
          rintro e w1 ⟨rfl, hb1⟩
          have HB1 := hide hb1
          clear hb1
          go_wp2
          go_returns
          unfold MeasPost
          rw [unhide HM]
          exact ⟨_, by go_num, .inl ⟨rfl, rfl⟩, unhide HB1⟩
    · have HM := hide ((unhide HME) hv)
      generalize hm : (V.vget (l.drop 1)).2.2 = m at hv HM
      have HG := hide (vget_fail _ (l.drop 1) w (unhide HT) m hm hv)
      clear hm HMD HME HKEY
      go_enter Tryz.func70, Tryz.ntmps70
      go_wp2_with fail
      refine (unhide HG).mono ?_
      rintro e w1 ⟨a1, a2, x, rfl, hi, hb1⟩
      have HB1 := hide hb1
      clear hb1
      obtain ⟨d, hd, he⟩ := er_of_inn (unhide hi)
      have HE1 := hide he
      clear he
      go_wp2_with fail
      refine (pw_use d hd _ m _ (unhide HE1)).mono ?_
      rintro e w2 ⟨y, rfl, hE, hb2⟩
      have HB2 : Hid (Below w.heap.size w w2) := (unhide HB1).trans (hb2.mono (unhide HB1).size)
      clear hb2
      go_wp2
      go_returns
      unfold MeasPost
      rw [unhide HM]
      exact ⟨_, rfl, .inr ⟨hv, unhide hE⟩, unhide HB2⟩
end Go.Proofs.YtpoeakillimibaaGreatDoor.K
/- Proved here: dovecoteref3.get reads one property with which bytes begin, or tells 0 bytes. Helper contracts. -/
namespace Go.Proofs.YtpoeakillimibaaGreatDoor
open Go.RowKit
set_option maxRecDepth 100000

theorem four_new {w w1 : World} {a b : Int} {c d : ByteArray} {t : TypeId} (hb : Below (w.alloc (.cells #[.int .i64 a, .int .i64 b, .string c, .string d] t)).heap.size (w.alloc (.cells #[.int .i64 a, .int .i64 b, .string c, .string d] t)) w1) : (w1.cell? ⟨w.heap.size, 0, none⟩ = some (.int .i64 a) ∧ w1.frozen? ⟨w.heap.size, 0, none⟩ = false) ∧ (w1.cell? ⟨w.heap.size, 1, none⟩ = some (.int .i64 b) ∧ w1.frozen? ⟨w.heap.size, 1, none⟩ = false) ∧ (w1.cell? ⟨w.heap.size, 2, none⟩ = some (.string c) ∧ w1.frozen? ⟨w.heap.size, 2, none⟩ = false) ∧ (w1.cell? ⟨w.heap.size, 3, none⟩ = some (.string d) ∧ w1.frozen? ⟨w.heap.size, 3, none⟩ = false) :=
  ⟨⟨(hb.cell (p := ⟨w.heap.size, 0, none⟩) (by simp)).trans (by simp), (hb.frozen (p := ⟨w.heap.size, 0, none⟩) (by simp)).trans (by simp)⟩, ⟨(hb.cell (p := ⟨w.heap.size, 1, none⟩) (by simp)).trans (by simp), (hb.frozen (p := ⟨w.heap.size, 1, none⟩) (by simp)).trans (by simp)⟩, ⟨(hb.cell (p := ⟨w.heap.size, 2, none⟩) (by simp)).trans (by simp), (hb.frozen (p := ⟨w.heap.size, 2, none⟩) (by simp)).trans (by simp)⟩, ⟨(hb.cell (p := ⟨w.heap.size, 3, none⟩) (by simp)).trans (by simp), (hb.frozen (p := ⟨w.heap.size, 3, none⟩) (by simp)).trans (by simp)⟩⟩
theorem old_cell {w1 w2 : World} {B j : Nat} {ob : Obj} {x : Value} (hb : Below (w1.alloc ob).heap.size (w1.alloc ob) w2) (q : w1.cell? ⟨B, j, none⟩ = some x) (f : w1.frozen? ⟨B, j, none⟩ = false) : w2.cell? ⟨B, j, none⟩ = some x ∧ w2.frozen? ⟨B, j, none⟩ = false := by
  have hl : B < w1.heap.size := cell_lt q
  have hl2 : B < (w1.alloc ob).heap.size := by simp; omega
  exact ⟨(hb.cell (p := ⟨B, j, none⟩) hl2).trans ((World.cell?_alloc_lt _ _ ⟨B, j, none⟩ hl).trans q), (hb.frozen (p := ⟨B, j, none⟩) hl2).trans ((((Below.refl w1.heap.size w1).alloc (Nat.le_refl _) _).frozen (p := ⟨B, j, none⟩) hl).trans f)⟩
theorem four_old {w1 w2 : World} {B : Nat} {ob : Obj} {x0 x1 x2 x3 : Value} (hb : Below (w1.alloc ob).heap.size (w1.alloc ob) w2) (q0 : w1.cell? ⟨B, 0, none⟩ = some x0) (f0 : w1.frozen? ⟨B, 0, none⟩ = false) (q1 : w1.cell? ⟨B, 1, none⟩ = some x1) (f1 : w1.frozen? ⟨B, 1, none⟩ = false) (q2 : w1.cell? ⟨B, 2, none⟩ = some x2) (f2 : w1.frozen? ⟨B, 2, none⟩ = false) (q3 : w1.cell? ⟨B, 3, none⟩ = some x3) (f3 : w1.frozen? ⟨B, 3, none⟩ = false) : (w2.cell? ⟨B, 0, none⟩ = some (x0) ∧ w2.frozen? ⟨B, 0, none⟩ = false) ∧ (w2.cell? ⟨B, 1, none⟩ = some (x1) ∧ w2.frozen? ⟨B, 1, none⟩ = false) ∧ (w2.cell? ⟨B, 2, none⟩ = some (x2) ∧ w2.frozen? ⟨B, 2, none⟩ = false) ∧ (w2.cell? ⟨B, 3, none⟩ = some (x3) ∧ w2.frozen? ⟨B, 3, none⟩ = false) :=
  ⟨old_cell hb q0 f0, old_cell hb q1 f1, old_cell hb q2 f2, old_cell hb q3 f3⟩
theorem kind_tell (id k : Int) (h : kd id = k) (w : World) : Calls Tryz.prog 187 #[.int .i64 id] w fun e w' => e = .returned (.int .i64 k) ∧ w' = w := by
  subst h
  exact kind_any id w
theorem rvget_good (v : Value) (l : List Int) (w : World) (h : Byt w v l) (n : Int) (K : Nat) (hv : V.vget l = (n, (K : Int), 0)) : Calls Tryz.prog 125 #[v] w fun e w' => e = .returned (.tuple #[.int .i64 n, .int .i64 K, .int .i64 0]) ∧ Below w.heap.size w w' := by
  refine (V.rget_any v l w h).mono ?_
  rintro e w' ⟨rfl, hb⟩
  rw [hv]
  exact ⟨rfl, hb⟩
theorem rvget_fail (v : Value) (l : List Int) (w : World) (h : Byt w v l) (m : Int) (hv : (V.vget l).2.2 = m) : Calls Tryz.prog 125 #[v] w fun e w' => ∃ a b, e = .returned (.tuple #[.int .i64 a, .int .i64 b, .int .i64 m]) ∧ Below w.heap.size w w' := by
  refine (V.rget_any v l w h).mono ?_
  rintro e w' ⟨rfl, hb⟩
  rw [hv]
  exact ⟨_, _, rfl, hb⟩
theorem rtget_good (v : Value) (l : List Int) (w : World) (h : Byt w v l) (n : ByteArray) (K : Nat) (hv : gt l = (n, (K : Int), 0)) : Calls Tryz.prog 172 #[v] w fun e w' => e = .returned (.tuple #[.string n, .int .i64 K, .int .i64 0]) ∧ Below w.heap.size w w' := by
  refine (rget_any v l w h).mono ?_
  rintro e w' ⟨rfl, hb⟩
  rw [hv]
  exact ⟨rfl, hb⟩
theorem rtget_fail (v : Value) (l : List Int) (w : World) (h : Byt w v l) (m : Int) (hv : (gt l).2.2 = m) : Calls Tryz.prog 172 #[v] w fun e w' => ∃ a b, e = .returned (.tuple #[.string a, .int .i64 b, .int .i64 m]) ∧ Below w.heap.size w w' := by
  refine (rget_any v l w h).mono ?_
  rintro e w' ⟨rfl, hb⟩
  rw [hv]
  exact ⟨_, _, rfl, hb⟩
theorem rtbin_good (v : Value) (l : List Int) (w : World) (h : Byt w v l) (n : ByteArray) (K : Nat) (hv : gbn l = (n, (K : Int), 0)) : Calls Tryz.prog 195 #[v] w fun e w' => e = .returned (.tuple #[.string n, .int .i64 K, .int .i64 0]) ∧ Below w.heap.size w w' := by
  refine (rgetBin_any v l w h).mono ?_
  rintro e w' ⟨rfl, hb⟩
  rw [hv]
  exact ⟨rfl, hb⟩
theorem rtbin_fail (v : Value) (l : List Int) (w : World) (h : Byt w v l) (m : Int) (hv : (gbn l).2.2 = m) : Calls Tryz.prog 195 #[v] w fun e w' => ∃ a b, e = .returned (.tuple #[.string a, .int .i64 b, .int .i64 m]) ∧ Below w.heap.size w w' := by
  refine (rgetBin_any v l w h).mono ?_
  rintro e w' ⟨rfl, hb⟩
  rw [hv]
  exact ⟨_, _, rfl, hb⟩
/-- a return of a property that lies in memory, and a number -/
theorem res_p2 {fn : Func} {a t : Tmp} (h : fn.results = #[.cell a 120, .tmp t]) {tmps : Array Value} {w : World} {B : Nat} {v0 v1 v2 v3 : Value} (ha : tmps[a]?.getD undef = .pointer (some ⟨B, 0, none⟩)) (c0 : w.cell? ⟨B, 0, none⟩ = some v0) (c1 : w.cell? ⟨B, 1, none⟩ = some v1) (c2 : w.cell? ⟨B, 2, none⟩ = some v2) (c3 : w.cell? ⟨B, 3, none⟩ = some v3) :
    (results fn tmps).run Tryz.prog w = .ok (.tuple #[.agg #[v0, v1, v2, v3], tmps[t]?.getD undef]) w := by
  simp [results, h, ha, go_sem, c0, c1, c2, c3]
def RgOk (p : Pr) (K : Int) (w : World) (e : Ending) (w' : World) : Prop := e = .returned (.tuple #[.agg #[.int .i64 p.1, .int .i64 p.2.1, .string p.2.2.1, .string p.2.2.2], .int .i64 K]) ∧ Below w.heap.size w w'
def RgBad (w : World) (e : Ending) (w' : World) : Prop := ∃ i n s t, e = .returned (.tuple #[.agg #[.int .i64 i, .int .i64 n, .string s, .string t], .int .i64 0]) ∧ Below w.heap.size w w'
set_option maxHeartbeats 2000000 in
theorem rg_text (v : Value) (l : List Int) (w : World) (h : Byt w v l) (id : Int) (Q : Nat) (hv : V.vget l = (id, (Q : Int), 0)) (hQ : 1 ≤ Q ∧ Q ≤ l.length) (hQ4 : Q ≤ 4) (hk : kd id = 6) (s : ByteArray) (M : Nat) (hg : gt (l.drop Q) = (s, (M : Int), 0)) (hM : 1 ≤ M) (hM2 : Q + M ≤ l.length) : Calls Tryz.prog 196 #[v] w (RgOk (id, 0, s, es) (Q + M : Nat) w) := by
  obtain ⟨b, off, cap, rfl, hc1, hc2⟩ := h.form1 (by omega)
  unfold maxLen at hc2
  have HV := hide h
  have Hhv := hide hv
  have HKD := hide hk
  have Hhg := hide hg
  clear h hv hk hg
  generalize hn : l.length = n at hc1 hQ HV hM2
  have HN := hide hn
  clear hn
  have hcQ : ¬ cap = Q := by omega
  go_enter Tryz.func196, Tryz.ntmps196
  go_wp2_with fail
  refine (rvget_good _ l _ ((unhide HV).below ((Below.refl _ _).alloc (Nat.le_refl _) _)) id Q (unhide Hhv)).mono ?_
  rintro e w1 ⟨rfl, hb1⟩
  have HB1 : Hid (Below w.heap.size w w1) := ((Below.refl _ _).alloc (Nat.le_refl _) _).trans (hb1.mono (by simp))
  have HD : Hid (Byt w1 (.slice (some ⟨b, off + Q, none⟩) (n - Q) (cap - Q)) (l.drop Q)) := by
    show Byt _ _ _
    have := ((unhide HV).below (unhide HB1)).drop' Q (by omega)
    rw [if_neg hcQ] at this; exact this
  obtain ⟨⟨q0, f0⟩, ⟨q1, f1⟩, ⟨q2, f2⟩, q3, f3⟩ := four_new hb1
  have hl1 : w.heap.size < w1.heap.size := cell_lt q0
  have hne : ¬ w1.heap.size = w.heap.size := by omega
  clear hb1
  go_wp2_with (first | (go_at_call 187; refine (kind_tell id 6 (unhide HKD) _).mono ?_; rintro e w2 ⟨rfl, hw⟩; obtain rfl := hw.symm; clear hw) | fail)
  refine (rtget_good _ _ _ ((unhide HD).below ((Below.refl _ _).alloc (Nat.le_refl _) _)) s M (unhide Hhg)).mono ?_
  rintro e w2 ⟨rfl, hb2⟩
  obtain ⟨⟨p0, h0⟩, ⟨p1, h1⟩, ⟨p2, h2⟩, p3, h3⟩ := four_new hb2
  obtain ⟨⟨r0, g0⟩, ⟨r1, g1⟩, ⟨r2, g2⟩, r3, g3⟩ := four_old hb2 q0 f0 q1 f1 q2 f2 q3 f3
  have HB2 : Hid (Below w.heap.size w w2) := ((unhide HB1).alloc (unhide HB1).size _).trans (hb2.mono (by simp; omega))
  clear hb2
  go_wp2
  (try simp only [Exit.inBlock, Exit.then])
  refine bodyPost_ret (res_p2 (B := w.heap.size) (v0 := .int .i64 id) (v1 := .int .i64 0) (v2 := .string s) (v3 := .string ⟨#[]⟩) rfl rfl ?c0 ?c1 ?c2 ?c3) rfl ?_
  case c0 => simp (maxDischargeDepth := 12) [cell_set, r0]
  case c1 => simp (maxDischargeDepth := 12) [cell_set, r1]
  case c2 => simp (maxDischargeDepth := 12) [cell_set, r2]
  case c3 => simp (maxDischargeDepth := 12) [cell_set, r3]
  exact ⟨by go_num, by have := unhide HB2; go_grown⟩
set_option maxHeartbeats 2000000 in
theorem rg_text_bad (v : Value) (l : List Int) (w : World) (h : Byt w v l) (id : Int) (Q : Nat) (hv : V.vget l = (id, (Q : Int), 0)) (hQ : 1 ≤ Q ∧ Q ≤ l.length) (hQ4 : Q ≤ 4) (hk : kd id = 6) (m : Int) (hg : (gt (l.drop Q)).2.2 = m) (hm : m ≠ 0) : Calls Tryz.prog 196 #[v] w (RgBad w) := by
  obtain ⟨b, off, cap, rfl, hc1, hc2⟩ := h.form1 (by omega)
  unfold maxLen at hc2
  have HV := hide h
  have Hhv := hide hv
  have HKD := hide hk
  have Hhg := hide hg
  clear h hv hk hg
  generalize hn : l.length = n at hc1 hQ HV 
  have HN := hide hn
  clear hn
  by_cases hcQ : cap = Q
  · have e1 : Q = cap := hcQ.symm
    clear hcQ
    subst e1
    have e2 : Q = n := by omega
    subst e2
    go_enter Tryz.func196, Tryz.ntmps196
    go_wp2_with fail
    refine (rvget_good _ l _ ((unhide HV).below ((Below.refl _ _).alloc (Nat.le_refl _) _)) id Q (unhide Hhv)).mono ?_
    rintro e w1 ⟨rfl, hb1⟩
    have HB1 : Hid (Below w.heap.size w w1) := ((Below.refl _ _).alloc (Nat.le_refl _) _).trans (hb1.mono (by simp))
    have HD : Hid (Byt w1 (.slice (some ⟨b, off, none⟩) 0 0) (l.drop Q)) := by
      show Byt _ _ _
      have := ((unhide HV).below (unhide HB1)).drop' Q (by omega)
      rw [if_pos rfl, Nat.sub_self] at this; exact this
    obtain ⟨⟨q0, f0⟩, ⟨q1, f1⟩, ⟨q2, f2⟩, q3, f3⟩ := four_new hb1
    have hl1 : w.heap.size < w1.heap.size := cell_lt q0
    have hne : ¬ w1.heap.size = w.heap.size := by omega
    clear hb1
    go_wp2_with (first | (go_at_call 187; refine (kind_tell id 6 (unhide HKD) _).mono ?_; rintro e w2 ⟨rfl, hw⟩; obtain rfl := hw.symm; clear hw) | fail)
    refine (rtget_fail _ _ _ ((unhide HD).below ((Below.refl _ _).alloc (Nat.le_refl _) _)) m (unhide Hhg)).mono ?_
    rintro e w2 ⟨a, b2, rfl, hb2⟩
    obtain ⟨⟨p0, h0⟩, ⟨p1, h1⟩, ⟨p2, h2⟩, p3, h3⟩ := four_new hb2
    obtain ⟨⟨r0, g0⟩, ⟨r1, g1⟩, ⟨r2, g2⟩, r3, g3⟩ := four_old hb2 q0 f0 q1 f1 q2 f2 q3 f3
    have HB2 : Hid (Below w.heap.size w w2) := ((unhide HB1).alloc (unhide HB1).size _).trans (hb2.mono (by simp; omega))
    clear hb2
    go_wp2
    (try simp only [Exit.inBlock, Exit.then])
    refine bodyPost_ret (res_p2 (B := w.heap.size) (v0 := .int .i64 id) (v1 := .int .i64 0) (v2 := .string a) (v3 := .string ⟨#[]⟩) rfl rfl ?c0 ?c1 ?c2 ?c3) rfl ?_
    case c0 => simp (maxDischargeDepth := 12) [cell_set, r0]
    case c1 => simp (maxDischargeDepth := 12) [cell_set, r1]
    case c2 => simp (maxDischargeDepth := 12) [cell_set, r2]
    case c3 => simp (maxDischargeDepth := 12) [cell_set, r3]
    exact ⟨_, _, _, _, rfl, by have := unhide HB2; go_grown⟩
  · go_enter Tryz.func196, Tryz.ntmps196
    go_wp2_with fail
    refine (rvget_good _ l _ ((unhide HV).below ((Below.refl _ _).alloc (Nat.le_refl _) _)) id Q (unhide Hhv)).mono ?_
    rintro e w1 ⟨rfl, hb1⟩
    have HB1 : Hid (Below w.heap.size w w1) := ((Below.refl _ _).alloc (Nat.le_refl _) _).trans (hb1.mono (by simp))
    have HD : Hid (Byt w1 (.slice (some ⟨b, off + Q, none⟩) (n - Q) (cap - Q)) (l.drop Q)) := by
      show Byt _ _ _
      have := ((unhide HV).below (unhide HB1)).drop' Q (by omega)
      rw [if_neg hcQ] at this; exact this
    obtain ⟨⟨q0, f0⟩, ⟨q1, f1⟩, ⟨q2, f2⟩, q3, f3⟩ := four_new hb1
    have hl1 : w.heap.size < w1.heap.size := cell_lt q0
    have hne : ¬ w1.heap.size = w.heap.size := by omega
    clear hb1
    go_wp2_with (first | (go_at_call 187; refine (kind_tell id 6 (unhide HKD) _).mono ?_; rintro e w2 ⟨rfl, hw⟩; obtain rfl := hw.symm; clear hw) | fail)
    refine (rtget_fail _ _ _ ((unhide HD).below ((Below.refl _ _).alloc (Nat.le_refl _) _)) m (unhide Hhg)).mono ?_
    rintro e w2 ⟨a, b2, rfl, hb2⟩
    obtain ⟨⟨p0, h0⟩, ⟨p1, h1⟩, ⟨p2, h2⟩, p3, h3⟩ := four_new hb2
    obtain ⟨⟨r0, g0⟩, ⟨r1, g1⟩, ⟨r2, g2⟩, r3, g3⟩ := four_old hb2 q0 f0 q1 f1 q2 f2 q3 f3
    have HB2 : Hid (Below w.heap.size w w2) := ((unhide HB1).alloc (unhide HB1).size _).trans (hb2.mono (by simp; omega))
    clear hb2
    go_wp2
    (try simp only [Exit.inBlock, Exit.then])
    refine bodyPost_ret (res_p2 (B := w.heap.size) (v0 := .int .i64 id) (v1 := .int .i64 0) (v2 := .string a) (v3 := .string ⟨#[]⟩) rfl rfl ?c0 ?c1 ?c2 ?c3) rfl ?_
    case c0 => simp (maxDischargeDepth := 12) [cell_set, r0]
    case c1 => simp (maxDischargeDepth := 12) [cell_set, r1]
    case c2 => simp (maxDischargeDepth := 12) [cell_set, r2]
    case c3 => simp (maxDischargeDepth := 12) [cell_set, r3]
    exact ⟨_, _, _, _, rfl, by have := unhide HB2; go_grown⟩
set_option maxHeartbeats 2000000 in
theorem rg_bin (v : Value) (l : List Int) (w : World) (h : Byt w v l) (id : Int) (Q : Nat) (hv : V.vget l = (id, (Q : Int), 0)) (hQ : 1 ≤ Q ∧ Q ≤ l.length) (hQ4 : Q ≤ 4) (hk : kd id = 7) (s : ByteArray) (M : Nat) (hg : gbn (l.drop Q) = (s, (M : Int), 0)) (hM : 1 ≤ M) (hM2 : Q + M ≤ l.length) : Calls Tryz.prog 196 #[v] w (RgOk (id, 0, s, es) (Q + M : Nat) w) := by
  obtain ⟨b, off, cap, rfl, hc1, hc2⟩ := h.form1 (by omega)
  unfold maxLen at hc2
  have HV := hide h
  have Hhv := hide hv
  have HKD := hide hk
  have Hhg := hide hg
  clear h hv hk hg
  generalize hn : l.length = n at hc1 hQ HV hM2
  have HN := hide hn
  clear hn
  have hcQ : ¬ cap = Q := by omega
  go_enter Tryz.func196, Tryz.ntmps196
  go_wp2_with fail
  refine (rvget_good _ l _ ((unhide HV).below ((Below.refl _ _).alloc (Nat.le_refl _) _)) id Q (unhide Hhv)).mono ?_
  rintro e w1 ⟨rfl, hb1⟩
  have HB1 : Hid (Below w.heap.size w w1) := ((Below.refl _ _).alloc (Nat.le_refl _) _).trans (hb1.mono (by simp))
  have HD : Hid (Byt w1 (.slice (some ⟨b, off + Q, none⟩) (n - Q) (cap - Q)) (l.drop Q)) := by
    show Byt _ _ _
    have := ((unhide HV).below (unhide HB1)).drop' Q (by omega)
    rw [if_neg hcQ] at this; exact this
  obtain ⟨⟨q0, f0⟩, ⟨q1, f1⟩, ⟨q2, f2⟩, q3, f3⟩ := four_new hb1
  have hl1 : w.heap.size < w1.heap.size := cell_lt q0
  have hne : ¬ w1.heap.size = w.heap.size := by omega
  clear hb1
  go_wp2_with (first | (go_at_call 187; refine (kind_tell id 7 (unhide HKD) _).mono ?_; rintro e w2 ⟨rfl, hw⟩; obtain rfl := hw.symm; clear hw) | fail)
  refine (rtbin_good _ _ _ ((unhide HD).below ((Below.refl _ _).alloc (Nat.le_refl _) _)) s M (unhide Hhg)).mono ?_
  rintro e w2 ⟨rfl, hb2⟩
  obtain ⟨⟨p0, h0⟩, ⟨p1, h1⟩, ⟨p2, h2⟩, p3, h3⟩ := four_new hb2
  obtain ⟨⟨r0, g0⟩, ⟨r1, g1⟩, ⟨r2, g2⟩, r3, g3⟩ := four_old hb2 q0 f0 q1 f1 q2 f2 q3 f3
  have HB2 : Hid (Below w.heap.size w w2) := ((unhide HB1).alloc (unhide HB1).size _).trans (hb2.mono (by simp; omega))
  clear hb2
  go_wp2
  (try simp only [Exit.inBlock, Exit.then])
  refine bodyPost_ret (res_p2 (B := w.heap.size) (v0 := .int .i64 id) (v1 := .int .i64 0) (v2 := .string s) (v3 := .string ⟨#[]⟩) rfl rfl ?c0 ?c1 ?c2 ?c3) rfl ?_
  case c0 => simp (maxDischargeDepth := 12) [cell_set, r0]
  case c1 => simp (maxDischargeDepth := 12) [cell_set, r1]
  case c2 => simp (maxDischargeDepth := 12) [cell_set, r2]
  case c3 => simp (maxDischargeDepth := 12) [cell_set, r3]
  exact ⟨by go_num, by have := unhide HB2; go_grown⟩
set_option maxHeartbeats 2000000 in
theorem rg_bin_bad (v : Value) (l : List Int) (w : World) (h : Byt w v l) (id : Int) (Q : Nat) (hv : V.vget l = (id, (Q : Int), 0)) (hQ : 1 ≤ Q ∧ Q ≤ l.length) (hQ4 : Q ≤ 4) (hk : kd id = 7) (m : Int) (hg : (gbn (l.drop Q)).2.2 = m) (hm : m ≠ 0) : Calls Tryz.prog 196 #[v] w (RgBad w) := by
  obtain ⟨b, off, cap, rfl, hc1, hc2⟩ := h.form1 (by omega)
  unfold maxLen at hc2
  have HV := hide h
  have Hhv := hide hv
  have HKD := hide hk
  have Hhg := hide hg
  clear h hv hk hg
  generalize hn : l.length = n at hc1 hQ HV 
  have HN := hide hn
  clear hn
  by_cases hcQ : cap = Q
  · have e1 : Q = cap := hcQ.symm
    clear hcQ
    subst e1
    have e2 : Q = n := by omega
    subst e2
    go_enter Tryz.func196, Tryz.ntmps196
    go_wp2_with fail
    refine (rvget_good _ l _ ((unhide HV).below ((Below.refl _ _).alloc (Nat.le_refl _) _)) id Q (unhide Hhv)).mono ?_
    rintro e w1 ⟨rfl, hb1⟩
    have HB1 : Hid (Below w.heap.size w w1) := ((Below.refl _ _).alloc (Nat.le_refl _) _).trans (hb1.mono (by simp))
    have HD : Hid (Byt w1 (.slice (some ⟨b, off, none⟩) 0 0) (l.drop Q)) := by
      show Byt _ _ _
      have := ((unhide HV).below (unhide HB1)).drop' Q (by omega)
      rw [if_pos rfl, Nat.sub_self] at this; exact this
    obtain ⟨⟨q0, f0⟩, ⟨q1, f1⟩, ⟨q2, f2⟩, q3, f3⟩ := four_new hb1
    have hl1 : w.heap.size < w1.heap.size := cell_lt q0
    have hne : ¬ w1.heap.size = w.heap.size := by omega
    clear hb1
    go_wp2_with (first | (go_at_call 187; refine (kind_tell id 7 (unhide HKD) _).mono ?_; rintro e w2 ⟨rfl, hw⟩; obtain rfl := hw.symm; clear hw) | fail)
    refine (rtbin_fail _ _ _ ((unhide HD).below ((Below.refl _ _).alloc (Nat.le_refl _) _)) m (unhide Hhg)).mono ?_
    rintro e w2 ⟨a, b2, rfl, hb2⟩
    obtain ⟨⟨p0, h0⟩, ⟨p1, h1⟩, ⟨p2, h2⟩, p3, h3⟩ := four_new hb2
    obtain ⟨⟨r0, g0⟩, ⟨r1, g1⟩, ⟨r2, g2⟩, r3, g3⟩ := four_old hb2 q0 f0 q1 f1 q2 f2 q3 f3
    have HB2 : Hid (Below w.heap.size w w2) := ((unhide HB1).alloc (unhide HB1).size _).trans (hb2.mono (by simp; omega))
    clear hb2
    go_wp2
    (try simp only [Exit.inBlock, Exit.then])
    refine bodyPost_ret (res_p2 (B := w.heap.size) (v0 := .int .i64 id) (v1 := .int .i64 0) (v2 := .string a) (v3 := .string ⟨#[]⟩) rfl rfl ?c0 ?c1 ?c2 ?c3) rfl ?_
    case c0 => simp (maxDischargeDepth := 12) [cell_set, r0]
    case c1 => simp (maxDischargeDepth := 12) [cell_set, r1]
    case c2 => simp (maxDischargeDepth := 12) [cell_set, r2]
    case c3 => simp (maxDischargeDepth := 12) [cell_set, r3]
    exact ⟨_, _, _, _, rfl, by have := unhide HB2; go_grown⟩
  · go_enter Tryz.func196, Tryz.ntmps196
    go_wp2_with fail
    refine (rvget_good _ l _ ((unhide HV).below ((Below.refl _ _).alloc (Nat.le_refl _) _)) id Q (unhide Hhv)).mono ?_
    rintro e w1 ⟨rfl, hb1⟩
    have HB1 : Hid (Below w.heap.size w w1) := ((Below.refl _ _).alloc (Nat.le_refl _) _).trans (hb1.mono (by simp))
    have HD : Hid (Byt w1 (.slice (some ⟨b, off + Q, none⟩) (n - Q) (cap - Q)) (l.drop Q)) := by
      show Byt _ _ _
      have := ((unhide HV).below (unhide HB1)).drop' Q (by omega)
      rw [if_neg hcQ] at this; exact this
    obtain ⟨⟨q0, f0⟩, ⟨q1, f1⟩, ⟨q2, f2⟩, q3, f3⟩ := four_new hb1
    have hl1 : w.heap.size < w1.heap.size := cell_lt q0
    have hne : ¬ w1.heap.size = w.heap.size := by omega
    clear hb1
    go_wp2_with (first | (go_at_call 187; refine (kind_tell id 7 (unhide HKD) _).mono ?_; rintro e w2 ⟨rfl, hw⟩; obtain rfl := hw.symm; clear hw) | fail)
    refine (rtbin_fail _ _ _ ((unhide HD).below ((Below.refl _ _).alloc (Nat.le_refl _) _)) m (unhide Hhg)).mono ?_
    rintro e w2 ⟨a, b2, rfl, hb2⟩
    obtain ⟨⟨p0, h0⟩, ⟨p1, h1⟩, ⟨p2, h2⟩, p3, h3⟩ := four_new hb2
    obtain ⟨⟨r0, g0⟩, ⟨r1, g1⟩, ⟨r2, g2⟩, r3, g3⟩ := four_old hb2 q0 f0 q1 f1 q2 f2 q3 f3
    have HB2 : Hid (Below w.heap.size w w2) := ((unhide HB1).alloc (unhide HB1).size _).trans (hb2.mono (by simp; omega))
    clear hb2
    go_wp2
    (try simp only [Exit.inBlock, Exit.then])
    refine bodyPost_ret (res_p2 (B := w.heap.size) (v0 := .int .i64 id) (v1 := .int .i64 0) (v2 := .string a) (v3 := .string ⟨#[]⟩) rfl rfl ?c0 ?c1 ?c2 ?c3) rfl ?_
    case c0 => simp (maxDischargeDepth := 12) [cell_set, r0]
    case c1 => simp (maxDischargeDepth := 12) [cell_set, r1]
    case c2 => simp (maxDischargeDepth := 12) [cell_set, r2]
    case c3 => simp (maxDischargeDepth := 12) [cell_set, r3]
    exact ⟨_, _, _, _, rfl, by have := unhide HB2; go_grown⟩
set_option maxHeartbeats 2000000 in
theorem rg_var (v : Value) (l : List Int) (w : World) (h : Byt w v l) (id : Int) (Q : Nat) (hv : V.vget l = (id, (Q : Int), 0)) (hQ : 1 ≤ Q ∧ Q ≤ l.length) (hQ4 : Q ≤ 4) (hk : kd id = 5) (s : Int) (M : Nat) (hg : V.vget (l.drop Q) = (s, (M : Int), 0)) (hM : 1 ≤ M) (hM2 : Q + M ≤ l.length) : Calls Tryz.prog 196 #[v] w (RgOk (id, s, es, es) (Q + M : Nat) w) := by
  obtain ⟨b, off, cap, rfl, hc1, hc2⟩ := h.form1 (by omega)
  unfold maxLen at hc2
  have HV := hide h
  have Hhv := hide hv
  have HKD := hide hk
  have Hhg := hide hg
  clear h hv hk hg
  generalize hn : l.length = n at hc1 hQ HV hM2
  have HN := hide hn
  clear hn
  have hcQ : ¬ cap = Q := by omega
  go_enter Tryz.func196, Tryz.ntmps196
  go_wp2_with fail
  refine (rvget_good _ l _ ((unhide HV).below ((Below.refl _ _).alloc (Nat.le_refl _) _)) id Q (unhide Hhv)).mono ?_
  rintro e w1 ⟨rfl, hb1⟩
  have HB1 : Hid (Below w.heap.size w w1) := ((Below.refl _ _).alloc (Nat.le_refl _) _).trans (hb1.mono (by simp))
  have HD : Hid (Byt w1 (.slice (some ⟨b, off + Q, none⟩) (n - Q) (cap - Q)) (l.drop Q)) := by
    show Byt _ _ _
    have := ((unhide HV).below (unhide HB1)).drop' Q (by omega)
    rw [if_neg hcQ] at this; exact this
  obtain ⟨⟨q0, f0⟩, ⟨q1, f1⟩, ⟨q2, f2⟩, q3, f3⟩ := four_new hb1
  have hl1 : w.heap.size < w1.heap.size := cell_lt q0
  have hne : ¬ w1.heap.size = w.heap.size := by omega
  clear hb1
  go_wp2_with (first | (go_at_call 187; refine (kind_tell id 5 (unhide HKD) _).mono ?_; rintro e w2 ⟨rfl, hw⟩; obtain rfl := hw.symm; clear hw) | fail)
  refine (rvget_good _ _ _ ((unhide HD).below ((Below.refl _ _).alloc (Nat.le_refl _) _)) s M (unhide Hhg)).mono ?_
  rintro e w2 ⟨rfl, hb2⟩
  obtain ⟨⟨p0, h0⟩, ⟨p1, h1⟩, ⟨p2, h2⟩, p3, h3⟩ := four_new hb2
  obtain ⟨⟨r0, g0⟩, ⟨r1, g1⟩, ⟨r2, g2⟩, r3, g3⟩ := four_old hb2 q0 f0 q1 f1 q2 f2 q3 f3
  have HB2 : Hid (Below w.heap.size w w2) := ((unhide HB1).alloc (unhide HB1).size _).trans (hb2.mono (by simp; omega))
  clear hb2
  go_wp2
  (try simp only [Exit.inBlock, Exit.then])
  refine bodyPost_ret (res_p2 (B := w.heap.size) (v0 := .int .i64 id) (v1 := .int .i64 s) (v2 := .string ⟨#[]⟩) (v3 := .string ⟨#[]⟩) rfl rfl ?c0 ?c1 ?c2 ?c3) rfl ?_
  case c0 => simp (maxDischargeDepth := 12) [cell_set, r0]
  case c1 => simp (maxDischargeDepth := 12) [cell_set, r1]
  case c2 => simp (maxDischargeDepth := 12) [cell_set, r2]
  case c3 => simp (maxDischargeDepth := 12) [cell_set, r3]
  exact ⟨by go_num, by have := unhide HB2; go_grown⟩
set_option maxHeartbeats 2000000 in
theorem rg_var_bad (v : Value) (l : List Int) (w : World) (h : Byt w v l) (id : Int) (Q : Nat) (hv : V.vget l = (id, (Q : Int), 0)) (hQ : 1 ≤ Q ∧ Q ≤ l.length) (hQ4 : Q ≤ 4) (hk : kd id = 5) (m : Int) (hg : (V.vget (l.drop Q)).2.2 = m) (hm : m ≠ 0) : Calls Tryz.prog 196 #[v] w (RgBad w) := by
  obtain ⟨b, off, cap, rfl, hc1, hc2⟩ := h.form1 (by omega)
  unfold maxLen at hc2
  have HV := hide h
  have Hhv := hide hv
  have HKD := hide hk
  have Hhg := hide hg
  clear h hv hk hg
  generalize hn : l.length = n at hc1 hQ HV 
  have HN := hide hn
  clear hn
  by_cases hcQ : cap = Q
  · have e1 : Q = cap := hcQ.symm
    clear hcQ
    subst e1
    have e2 : Q = n := by omega
    subst e2
    go_enter Tryz.func196, Tryz.ntmps196
    go_wp2_with fail
    refine (rvget_good _ l _ ((unhide HV).below ((Below.refl _ _).alloc (Nat.le_refl _) _)) id Q (unhide Hhv)).mono ?_
    rintro e w1 ⟨rfl, hb1⟩
    have HB1 : Hid (Below w.heap.size w w1) := ((Below.refl _ _).alloc (Nat.le_refl _) _).trans (hb1.mono (by simp))
    have HD : Hid (Byt w1 (.slice (some ⟨b, off, none⟩) 0 0) (l.drop Q)) := by
      show Byt _ _ _
      have := ((unhide HV).below (unhide HB1)).drop' Q (by omega)
      rw [if_pos rfl, Nat.sub_self] at this; exact this
    obtain ⟨⟨q0, f0⟩, ⟨q1, f1⟩, ⟨q2, f2⟩, q3, f3⟩ := four_new hb1
    have hl1 : w.heap.size < w1.heap.size := cell_lt q0
    have hne : ¬ w1.heap.size = w.heap.size := by omega
    clear hb1
    go_wp2_with (first | (go_at_call 187; refine (kind_tell id 5 (unhide HKD) _).mono ?_; rintro e w2 ⟨rfl, hw⟩; obtain rfl := hw.symm; clear hw) | fail)
    refine (rvget_fail _ _ _ ((unhide HD).below ((Below.refl _ _).alloc (Nat.le_refl _) _)) m (unhide Hhg)).mono ?_
    rintro e w2 ⟨a, b2, rfl, hb2⟩
    obtain ⟨⟨p0, h0⟩, ⟨p1, h1⟩, ⟨p2, h2⟩, p3, h3⟩ := four_new hb2
    obtain ⟨⟨r0, g0⟩, ⟨r1, g1⟩, ⟨r2, g2⟩, r3, g3⟩ := four_old hb2 q0 f0 q1 f1 q2 f2 q3 f3
    have HB2 : Hid (Below w.heap.size w w2) := ((unhide HB1).alloc (unhide HB1).size _).trans (hb2.mono (by simp; omega))
    clear hb2
    go_wp2
    (try simp only [Exit.inBlock, Exit.then])
    refine bodyPost_ret (res_p2 (B := w.heap.size) (v0 := .int .i64 id) (v1 := .int .i64 a) (v2 := .string ⟨#[]⟩) (v3 := .string ⟨#[]⟩) rfl rfl ?c0 ?c1 ?c2 ?c3) rfl ?_
    case c0 => simp (maxDischargeDepth := 12) [cell_set, r0]
    case c1 => simp (maxDischargeDepth := 12) [cell_set, r1]
    case c2 => simp (maxDischargeDepth := 12) [cell_set, r2]
    case c3 => simp (maxDischargeDepth := 12) [cell_set, r3]
    exact ⟨_, _, _, _, rfl, by have := unhide HB2; go_grown⟩
  · go_enter Tryz.func196, Tryz.ntmps196
    go_wp2_with fail
    refine (rvget_good _ l _ ((unhide HV).below ((Below.refl _ _).alloc (Nat.le_refl _) _)) id Q (unhide Hhv)).mono ?_
    rintro e w1 ⟨rfl, hb1⟩
    have HB1 : Hid (Below w.heap.size w w1) := ((Below.refl _ _).alloc (Nat.le_refl _) _).trans (hb1.mono (by simp))
    have HD : Hid (Byt w1 (.slice (some ⟨b, off + Q, none⟩) (n - Q) (cap - Q)) (l.drop Q)) := by
      show Byt _ _ _
      have := ((unhide HV).below (unhide HB1)).drop' Q (by omega)
      rw [if_neg hcQ] at this; exact this
    obtain ⟨⟨q0, f0⟩, ⟨q1, f1⟩, ⟨q2, f2⟩, q3, f3⟩ := four_new hb1
    have hl1 : w.heap.size < w1.heap.size := cell_lt q0
    have hne : ¬ w1.heap.size = w.heap.size := by omega
    clear hb1
    go_wp2_with (first | (go_at_call 187; refine (kind_tell id 5 (unhide HKD) _).mono ?_; rintro e w2 ⟨rfl, hw⟩; obtain rfl := hw.symm; clear hw) | fail)
    refine (rvget_fail _ _ _ ((unhide HD).below ((Below.refl _ _).alloc (Nat.le_refl _) _)) m (unhide Hhg)).mono ?_
    rintro e w2 ⟨a, b2, rfl, hb2⟩
    obtain ⟨⟨p0, h0⟩, ⟨p1, h1⟩, ⟨p2, h2⟩, p3, h3⟩ := four_new hb2
    obtain ⟨⟨r0, g0⟩, ⟨r1, g1⟩, ⟨r2, g2⟩, r3, g3⟩ := four_old hb2 q0 f0 q1 f1 q2 f2 q3 f3
    have HB2 : Hid (Below w.heap.size w w2) := ((unhide HB1).alloc (unhide HB1).size _).trans (hb2.mono (by simp; omega))
    clear hb2
    go_wp2
    (try simp only [Exit.inBlock, Exit.then])
    refine bodyPost_ret (res_p2 (B := w.heap.size) (v0 := .int .i64 id) (v1 := .int .i64 a) (v2 := .string ⟨#[]⟩) (v3 := .string ⟨#[]⟩) rfl rfl ?c0 ?c1 ?c2 ?c3) rfl ?_
    case c0 => simp (maxDischargeDepth := 12) [cell_set, r0]
    case c1 => simp (maxDischargeDepth := 12) [cell_set, r1]
    case c2 => simp (maxDischargeDepth := 12) [cell_set, r2]
    case c3 => simp (maxDischargeDepth := 12) [cell_set, r3]
    exact ⟨_, _, _, _, rfl, by have := unhide HB2; go_grown⟩
set_option maxHeartbeats 2000000 in
theorem rg_none (v : Value) (l : List Int) (w : World) (h : Byt w v l) (id : Int) (Q : Nat) (hv : V.vget l = (id, (Q : Int), 0)) (hQ : 1 ≤ Q ∧ Q ≤ l.length) (hQ4 : Q ≤ 4) (hk : kd id = 0) : Calls Tryz.prog 196 #[v] w (RgBad w) := by
  obtain ⟨b, off, cap, rfl, hc1, hc2⟩ := h.form1 (by omega)
  unfold maxLen at hc2
  have HV := hide h
  have Hhv := hide hv
  have HKD := hide hk
  clear h hv hk 
  generalize hn : l.length = n at hc1 hQ HV 
  have HN := hide hn
  clear hn
  by_cases hcQ : cap = Q
  · have e1 : Q = cap := hcQ.symm
    clear hcQ
    subst e1
    have e2 : Q = n := by omega
    subst e2
    go_enter Tryz.func196, Tryz.ntmps196
    go_wp2_with fail
    refine (rvget_good _ l _ ((unhide HV).below ((Below.refl _ _).alloc (Nat.le_refl _) _)) id Q (unhide Hhv)).mono ?_
    rintro e w1 ⟨rfl, hb1⟩
    have HB1 : Hid (Below w.heap.size w w1) := ((Below.refl _ _).alloc (Nat.le_refl _) _).trans (hb1.mono (by simp))
    have HD : Hid (Byt w1 (.slice (some ⟨b, off, none⟩) 0 0) (l.drop Q)) := by
      show Byt _ _ _
      have := ((unhide HV).below (unhide HB1)).drop' Q (by omega)
      rw [if_pos rfl, Nat.sub_self] at this; exact this
    obtain ⟨⟨q0, f0⟩, ⟨q1, f1⟩, ⟨q2, f2⟩, q3, f3⟩ := four_new hb1
    have hl1 : w.heap.size < w1.heap.size := cell_lt q0
    have hne : ¬ w1.heap.size = w.heap.size := by omega
    clear hb1
    go_wp2_with (first | (go_at_call 187; refine (kind_tell id 0 (unhide HKD) _).mono ?_; rintro e w2 ⟨rfl, hw⟩; obtain rfl := hw.symm; clear hw) | fail)
    (try simp only [Exit.inBlock, Exit.then])
    refine bodyPost_ret (res_p2 (B := w.heap.size) (v0 := .int .i64 id) (v1 := .int .i64 0) (v2 := .string ⟨#[]⟩) (v3 := .string ⟨#[]⟩) rfl rfl ?c0 ?c1 ?c2 ?c3) rfl ?_
    case c0 => rw [World.cell?_alloc_lt _ _ _ (by simpa using hl1)]; simp (maxDischargeDepth := 12) [cell_set, q0]
    case c1 => rw [World.cell?_alloc_lt _ _ _ (by simpa using hl1)]; simp (maxDischargeDepth := 12) [cell_set, q1]
    case c2 => rw [World.cell?_alloc_lt _ _ _ (by simpa using hl1)]; simp (maxDischargeDepth := 12) [cell_set, q2]
    case c3 => rw [World.cell?_alloc_lt _ _ _ (by simpa using hl1)]; simp (maxDischargeDepth := 12) [cell_set, q3]
    exact ⟨_, _, _, _, rfl, by have := unhide HB1; go_grown⟩
  · go_enter Tryz.func196, Tryz.ntmps196
    go_wp2_with fail
    refine (rvget_good _ l _ ((unhide HV).below ((Below.refl _ _).alloc (Nat.le_refl _) _)) id Q (unhide Hhv)).mono ?_
    rintro e w1 ⟨rfl, hb1⟩
    have HB1 : Hid (Below w.heap.size w w1) := ((Below.refl _ _).alloc (Nat.le_refl _) _).trans (hb1.mono (by simp))
    have HD : Hid (Byt w1 (.slice (some ⟨b, off + Q, none⟩) (n - Q) (cap - Q)) (l.drop Q)) := by
      show Byt _ _ _
      have := ((unhide HV).below (unhide HB1)).drop' Q (by omega)
      rw [if_neg hcQ] at this; exact this
    obtain ⟨⟨q0, f0⟩, ⟨q1, f1⟩, ⟨q2, f2⟩, q3, f3⟩ := four_new hb1
    have hl1 : w.heap.size < w1.heap.size := cell_lt q0
    have hne : ¬ w1.heap.size = w.heap.size := by omega
    clear hb1
    go_wp2_with (first | (go_at_call 187; refine (kind_tell id 0 (unhide HKD) _).mono ?_; rintro e w2 ⟨rfl, hw⟩; obtain rfl := hw.symm; clear hw) | fail)
    (try simp only [Exit.inBlock, Exit.then])
    refine bodyPost_ret (res_p2 (B := w.heap.size) (v0 := .int .i64 id) (v1 := .int .i64 0) (v2 := .string ⟨#[]⟩) (v3 := .string ⟨#[]⟩) rfl rfl ?c0 ?c1 ?c2 ?c3) rfl ?_
    case c0 => rw [World.cell?_alloc_lt _ _ _ (by simpa using hl1)]; simp (maxDischargeDepth := 12) [cell_set, q0]
    case c1 => rw [World.cell?_alloc_lt _ _ _ (by simpa using hl1)]; simp (maxDischargeDepth := 12) [cell_set, q1]
    case c2 => rw [World.cell?_alloc_lt _ _ _ (by simpa using hl1)]; simp (maxDischargeDepth := 12) [cell_set, q2]
    case c3 => rw [World.cell?_alloc_lt _ _ _ (by simpa using hl1)]; simp (maxDischargeDepth := 12) [cell_set, q3]
    exact ⟨_, _, _, _, rfl, by have := unhide HB1; go_grown⟩
set_option maxHeartbeats 2000000 in
theorem rg_num1 (v : Value) (l : List Int) (w : World) (h : Byt w v l) (id : Int) (Q : Nat) (hv : V.vget l = (id, (Q : Int), 0)) (hQ : 1 ≤ Q ∧ Q ≤ l.length) (hQ4 : Q ≤ 4) (hk : kd id = 1) (hM2 : Q + 1 ≤ l.length) : Calls Tryz.prog 196 #[v] w (RgOk (id, be 1 (l.drop Q), es, es) (Q + 1 : Nat) w) := by
  obtain ⟨x0, hx0⟩ : ∃ x, (l.drop Q).getD 0 0 = x := ⟨_, rfl⟩
  have r0 := Rng.drop h.range Q 0
  rw [hx0] at r0
  have hbe : be 1 (l.drop Q) = x0 := by unfold be; simp only [hx0]; simp
  obtain ⟨b, off, cap, rfl, hc1, hc2⟩ := h.form1 (by omega)
  unfold maxLen at hc2
  have HCC : Hid (∀ W : World, Byt W (.slice (some ⟨b, off + Q, none⟩) (l.length - Q) (cap - Q)) (l.drop Q) → ∀ j, j < 1 → W.cell? ⟨b, off + Q + j, none⟩ = some (.int .u8 ((l.drop Q).getD j 0))) := fun W hW j hj => by
    obtain ⟨ao', cap', e, _, _, hcase⟩ := hW
    simp only [Value.slice.injEq] at e
    obtain ⟨rfl, _, _⟩ := e
    rcases hcase with hc | ⟨b', off', e', hc⟩
    · have := congrArg List.length hc
      simp at this
      omega
    · simp only [Option.some.injEq, Addr.mk.injEq] at e'
      obtain ⟨rfl, rfl, _⟩ := e'
      exact hc j (by rw [List.length_drop]; omega)
  have HCB : Hid (∀ W : World, Byt W (.slice (some ⟨b, off + Q, none⟩) (l.length - Q) (cap - Q)) (l.drop Q) → b < W.heap.size) := fun W hW => cell_lt ((unhide HCC) W hW 0 (by omega))
  have HX0 := hide hx0
  clear hx0
  have HBE := hide hbe
  clear hbe
  have HV := hide h
  have Hhv := hide hv
  have HKD := hide hk
  clear h hv hk 
  generalize hn : l.length = n at hc1 hQ HV hM2 HCC HCB
  have HN := hide hn
  clear hn
  have hcQ : ¬ cap = Q := by omega
  go_enter Tryz.func196, Tryz.ntmps196
  go_wp2_with fail
  refine (rvget_good _ l _ ((unhide HV).below ((Below.refl _ _).alloc (Nat.le_refl _) _)) id Q (unhide Hhv)).mono ?_
  rintro e w1 ⟨rfl, hb1⟩
  have HB1 : Hid (Below w.heap.size w w1) := ((Below.refl _ _).alloc (Nat.le_refl _) _).trans (hb1.mono (by simp))
  have HD : Hid (Byt w1 (.slice (some ⟨b, off + Q, none⟩) (n - Q) (cap - Q)) (l.drop Q)) := by
    show Byt _ _ _
    have := ((unhide HV).below (unhide HB1)).drop' Q (by omega)
    rw [if_neg hcQ] at this; exact this
  obtain ⟨⟨q0, f0⟩, ⟨q1, f1⟩, ⟨q2, f2⟩, q3, f3⟩ := four_new hb1
  have hl1 : w.heap.size < w1.heap.size := cell_lt q0
  have hne : ¬ w1.heap.size = w.heap.size := by omega
  clear hb1
  have hbl : b < w1.heap.size := (unhide HCB) w1 (unhide HD)
  have y0 : w1.cell? ⟨b, off + Q, none⟩ = some (.int .u8 x0) := by
    have := (unhide HCC) w1 (unhide HD) 0 (by omega)
    rw [unhide HX0] at this
    exact this
  have ix0 : ((0 : Nat) : Int) < ((n - Q : Nat) : Int) := by omega
  have iy0 : (0 : Int) < ((n - Q : Nat) : Int) := by omega
  have iz0 : 0 < n - Q := by omega
  have hnb : ¬ b = w1.heap.size := by omega
  have e0 : bits .or .i64 0 x0 = x0 := V.or_zero x0 r0.1 (by omega)
  go_wp2_with (first | (go_at_call 187; refine (kind_tell id 1 (unhide HKD) _).mono ?_; rintro e w2 ⟨rfl, hw⟩; obtain rfl := hw.symm; clear hw) | fail)
  refine wp_loop_rounds 2 ?_
  rw [rounds_succ]
  go_wp2_with fail
  refine wp_region_noPanic ?_
  refine wp_region_held_drew (S := (fun w' => w'.cell? ⟨b, off + Q, none⟩ = some (.int .u8 x0))) (by kernel_rfl) (by go_keep) (fun hHeld => ?_)
  refine rtk 0 (h := ?_)
  refine rtk 3 (h := ?_)
  refine rtk 4 (h := ?_)
  refine rtk 5 (h := ?_)
  refine rtk 6 (h := ?_)
  refine rtk 7 (h := ?_)
  refine rcl 1 (h := fun K hK => ?_)
  go_simp
  refine hK.out _ _ (by go_keep) (fun hHeld => ?_)
  clear hK K
  refine rtk 2 (h := ?_)
  refine rtk 8 (h := ?_)
  refine rtk 9 (h := ?_)
  refine rcl 10 (h := fun K hK => ?_)
  go_simp
  refine hK.out _ _ (by go_keep) (fun hHeld => ?_)
  clear hK K
  refine wpAnyH_done (by kernel_rfl) ?_ _
  refine NoPanic.normal ?_
  go_wp2_with fail
  rw [rounds_succ]
  go_wp2
  (try simp only [Exit.inBlock, Exit.then])
  refine bodyPost_ret (res_p2 (B := w.heap.size) (v0 := .int .i64 id) (v1 := .int .i64 (x0)) (v2 := .string ⟨#[]⟩) (v3 := .string ⟨#[]⟩) rfl rfl ?c0 ?c1 ?c2 ?c3) rfl ?_
  case c0 => simp only [World.cell?_drew]; rw [World.cell?_alloc_lt _ _ _ (by simpa using hl1)]; simp (maxDischargeDepth := 12) [cell_set, q0]
  case c1 => simp only [World.cell?_drew]; rw [World.cell?_alloc_lt _ _ _ (by simpa using hl1)]; simp (maxDischargeDepth := 12) [cell_set, q1]
  case c2 => simp only [World.cell?_drew]; rw [World.cell?_alloc_lt _ _ _ (by simpa using hl1)]; simp (maxDischargeDepth := 12) [cell_set, q2]
  case c3 => simp only [World.cell?_drew]; rw [World.cell?_alloc_lt _ _ _ (by simpa using hl1)]; simp (maxDischargeDepth := 12) [cell_set, q3]
  refine ⟨?_, by have := unhide HB1; go_grown⟩
  rw [unhide HBE]
  go_num
set_option maxHeartbeats 2000000 in
theorem rg_num1_bad (v : Value) (l : List Int) (w : World) (h : Byt w v l) (id : Int) (Q : Nat) (hv : V.vget l = (id, (Q : Int), 0)) (hQ : 1 ≤ Q ∧ Q ≤ l.length) (hQ4 : Q ≤ 4) (hk : kd id = 1) (hM2 : l.length < Q + 1) : Calls Tryz.prog 196 #[v] w (RgBad w) := by
  obtain ⟨b, off, cap, rfl, hc1, hc2⟩ := h.form1 (by omega)
  unfold maxLen at hc2
  have HV := hide h
  have Hhv := hide hv
  have HKD := hide hk
  clear h hv hk 
  generalize hn : l.length = n at hc1 hQ HV hM2
  have HN := hide hn
  clear hn
  by_cases hcQ : cap = Q
  · have e1 : Q = cap := hcQ.symm
    clear hcQ
    subst e1
    have e2 : Q = n := by omega
    subst e2
    go_enter Tryz.func196, Tryz.ntmps196
    go_wp2_with fail
    refine (rvget_good _ l _ ((unhide HV).below ((Below.refl _ _).alloc (Nat.le_refl _) _)) id Q (unhide Hhv)).mono ?_
    rintro e w1 ⟨rfl, hb1⟩
    have HB1 : Hid (Below w.heap.size w w1) := ((Below.refl _ _).alloc (Nat.le_refl _) _).trans (hb1.mono (by simp))
    have HD : Hid (Byt w1 (.slice (some ⟨b, off, none⟩) 0 0) (l.drop Q)) := by
      show Byt _ _ _
      have := ((unhide HV).below (unhide HB1)).drop' Q (by omega)
      rw [if_pos rfl, Nat.sub_self] at this; exact this
    obtain ⟨⟨q0, f0⟩, ⟨q1, f1⟩, ⟨q2, f2⟩, q3, f3⟩ := four_new hb1
    have hl1 : w.heap.size < w1.heap.size := cell_lt q0
    have hne : ¬ w1.heap.size = w.heap.size := by omega
    clear hb1
    go_wp2_with (first | (go_at_call 187; refine (kind_tell id 1 (unhide HKD) _).mono ?_; rintro e w2 ⟨rfl, hw⟩; obtain rfl := hw.symm; clear hw) | fail)
    (try simp only [Exit.inBlock, Exit.then])
    refine bodyPost_ret (res_p2 (B := w.heap.size) (v0 := .int .i64 id) (v1 := .int .i64 0) (v2 := .string ⟨#[]⟩) (v3 := .string ⟨#[]⟩) rfl rfl ?c0 ?c1 ?c2 ?c3) rfl ?_
    case c0 => rw [World.cell?_alloc_lt _ _ _ (by simpa using hl1)]; simp (maxDischargeDepth := 12) [cell_set, q0]
    case c1 => rw [World.cell?_alloc_lt _ _ _ (by simpa using hl1)]; simp (maxDischargeDepth := 12) [cell_set, q1]
    case c2 => rw [World.cell?_alloc_lt _ _ _ (by simpa using hl1)]; simp (maxDischargeDepth := 12) [cell_set, q2]
    case c3 => rw [World.cell?_alloc_lt _ _ _ (by simpa using hl1)]; simp (maxDischargeDepth := 12) [cell_set, q3]
    exact ⟨_, _, _, _, rfl, by have := unhide HB1; go_grown⟩
  · go_enter Tryz.func196, Tryz.ntmps196
    go_wp2_with fail
    refine (rvget_good _ l _ ((unhide HV).below ((Below.refl _ _).alloc (Nat.le_refl _) _)) id Q (unhide Hhv)).mono ?_
    rintro e w1 ⟨rfl, hb1⟩
    have HB1 : Hid (Below w.heap.size w w1) := ((Below.refl _ _).alloc (Nat.le_refl _) _).trans (hb1.mono (by simp))
    have HD : Hid (Byt w1 (.slice (some ⟨b, off + Q, none⟩) (n - Q) (cap - Q)) (l.drop Q)) := by
      show Byt _ _ _
      have := ((unhide HV).below (unhide HB1)).drop' Q (by omega)
      rw [if_neg hcQ] at this; exact this
    obtain ⟨⟨q0, f0⟩, ⟨q1, f1⟩, ⟨q2, f2⟩, q3, f3⟩ := four_new hb1
    have hl1 : w.heap.size < w1.heap.size := cell_lt q0
    have hne : ¬ w1.heap.size = w.heap.size := by omega
    clear hb1
    go_wp2_with (first | (go_at_call 187; refine (kind_tell id 1 (unhide HKD) _).mono ?_; rintro e w2 ⟨rfl, hw⟩; obtain rfl := hw.symm; clear hw) | fail)
    (try simp only [Exit.inBlock, Exit.then])
    refine bodyPost_ret (res_p2 (B := w.heap.size) (v0 := .int .i64 id) (v1 := .int .i64 0) (v2 := .string ⟨#[]⟩) (v3 := .string ⟨#[]⟩) rfl rfl ?c0 ?c1 ?c2 ?c3) rfl ?_
    case c0 => rw [World.cell?_alloc_lt _ _ _ (by simpa using hl1)]; simp (maxDischargeDepth := 12) [cell_set, q0]
    case c1 => rw [World.cell?_alloc_lt _ _ _ (by simpa using hl1)]; simp (maxDischargeDepth := 12) [cell_set, q1]
    case c2 => rw [World.cell?_alloc_lt _ _ _ (by simpa using hl1)]; simp (maxDischargeDepth := 12) [cell_set, q2]
    case c3 => rw [World.cell?_alloc_lt _ _ _ (by simpa using hl1)]; simp (maxDischargeDepth := 12) [cell_set, q3]
    exact ⟨_, _, _, _, rfl, by have := unhide HB1; go_grown⟩
set_option maxHeartbeats 2000000 in
theorem rg_num2 (v : Value) (l : List Int) (w : World) (h : Byt w v l) (id : Int) (Q : Nat) (hv : V.vget l = (id, (Q : Int), 0)) (hQ : 1 ≤ Q ∧ Q ≤ l.length) (hQ4 : Q ≤ 4) (hk : kd id = 2) (hM2 : Q + 2 ≤ l.length) : Calls Tryz.prog 196 #[v] w (RgOk (id, be 2 (l.drop Q), es, es) (Q + 2 : Nat) w) := by
  obtain ⟨x0, hx0⟩ : ∃ x, (l.drop Q).getD 0 0 = x := ⟨_, rfl⟩
  have r0 := Rng.drop h.range Q 0
  rw [hx0] at r0
  obtain ⟨x1, hx1⟩ : ∃ x, (l.drop Q).getD 1 0 = x := ⟨_, rfl⟩
  have r1 := Rng.drop h.range Q 1
  rw [hx1] at r1
  have hbe : be 2 (l.drop Q) = x0 * 256 + x1 := by unfold be; simp only [hx0, hx1]; simp
  obtain ⟨b, off, cap, rfl, hc1, hc2⟩ := h.form1 (by omega)
  unfold maxLen at hc2
  have HCC : Hid (∀ W : World, Byt W (.slice (some ⟨b, off + Q, none⟩) (l.length - Q) (cap - Q)) (l.drop Q) → ∀ j, j < 2 → W.cell? ⟨b, off + Q + j, none⟩ = some (.int .u8 ((l.drop Q).getD j 0))) := fun W hW j hj => by
    obtain ⟨ao', cap', e, _, _, hcase⟩ := hW
    simp only [Value.slice.injEq] at e
    obtain ⟨rfl, _, _⟩ := e
    rcases hcase with hc | ⟨b', off', e', hc⟩
    · have := congrArg List.length hc
      simp at this
      omega
    · simp only [Option.some.injEq, Addr.mk.injEq] at e'
      obtain ⟨rfl, rfl, _⟩ := e'
      exact hc j (by rw [List.length_drop]; omega)
  have HCB : Hid (∀ W : World, Byt W (.slice (some ⟨b, off + Q, none⟩) (l.length - Q) (cap - Q)) (l.drop Q) → b < W.heap.size) := fun W hW => cell_lt ((unhide HCC) W hW 0 (by omega))
  have HX0 := hide hx0
  clear hx0
  have HX1 := hide hx1
  clear hx1
  have HBE := hide hbe
  clear hbe
  have HV := hide h
  have Hhv := hide hv
  have HKD := hide hk
  clear h hv hk 
  generalize hn : l.length = n at hc1 hQ HV hM2 HCC HCB
  have HN := hide hn
  clear hn
  have hcQ : ¬ cap = Q := by omega
  go_enter Tryz.func196, Tryz.ntmps196
  go_wp2_with fail
  refine (rvget_good _ l _ ((unhide HV).below ((Below.refl _ _).alloc (Nat.le_refl _) _)) id Q (unhide Hhv)).mono ?_
  rintro e w1 ⟨rfl, hb1⟩
  have HB1 : Hid (Below w.heap.size w w1) := ((Below.refl _ _).alloc (Nat.le_refl _) _).trans (hb1.mono (by simp))
  have HD : Hid (Byt w1 (.slice (some ⟨b, off + Q, none⟩) (n - Q) (cap - Q)) (l.drop Q)) := by
    show Byt _ _ _
    have := ((unhide HV).below (unhide HB1)).drop' Q (by omega)
    rw [if_neg hcQ] at this; exact this
  obtain ⟨⟨q0, f0⟩, ⟨q1, f1⟩, ⟨q2, f2⟩, q3, f3⟩ := four_new hb1
  have hl1 : w.heap.size < w1.heap.size := cell_lt q0
  have hne : ¬ w1.heap.size = w.heap.size := by omega
  clear hb1
  have hbl : b < w1.heap.size := (unhide HCB) w1 (unhide HD)
  have y0 : w1.cell? ⟨b, off + Q, none⟩ = some (.int .u8 x0) := by
    have := (unhide HCC) w1 (unhide HD) 0 (by omega)
    rw [unhide HX0] at this
    exact this
  have y1 : w1.cell? ⟨b, off + Q + 1, none⟩ = some (.int .u8 x1) := by
    have := (unhide HCC) w1 (unhide HD) 1 (by omega)
    rw [unhide HX1] at this
    exact this
  have ix0 : ((0 : Nat) : Int) < ((n - Q : Nat) : Int) := by omega
  have iy0 : (0 : Int) < ((n - Q : Nat) : Int) := by omega
  have iz0 : 0 < n - Q := by omega
  have ix1 : ((1 : Nat) : Int) < ((n - Q : Nat) : Int) := by omega
  have iy1 : (1 : Int) < ((n - Q : Nat) : Int) := by omega
  have iz1 : 1 < n - Q := by omega
  have hnb : ¬ b = w1.heap.size := by omega
  have e0 : bits .or .i64 0 x0 = x0 := V.or_zero x0 r0.1 (by omega)
  have e1 := or_256 (x0) x1 (by omega) (by omega) r1.1 r1.2
  go_wp2_with (first | (go_at_call 187; refine (kind_tell id 2 (unhide HKD) _).mono ?_; rintro e w2 ⟨rfl, hw⟩; obtain rfl := hw.symm; clear hw) | fail)
  refine wp_loop_rounds 3 ?_
  rw [rounds_succ]
  go_wp2_with fail
  refine wp_region_noPanic ?_
  refine wp_region_held_drew (S := (fun w' => w'.cell? ⟨b, off + Q, none⟩ = some (.int .u8 x0))) (by kernel_rfl) (by go_keep) (fun hHeld => ?_)
  refine rtk 0 (h := ?_)
  refine rtk 3 (h := ?_)
  refine rtk 4 (h := ?_)
  refine rtk 5 (h := ?_)
  refine rtk 6 (h := ?_)
  refine rtk 7 (h := ?_)
  refine rcl 1 (h := fun K hK => ?_)
  go_simp
  refine hK.out _ _ (by go_keep) (fun hHeld => ?_)
  clear hK K
  refine rtk 2 (h := ?_)
  refine rtk 8 (h := ?_)
  refine rtk 9 (h := ?_)
  refine rcl 10 (h := fun K hK => ?_)
  go_simp
  refine hK.out _ _ (by go_keep) (fun hHeld => ?_)
  clear hK K
  refine wpAnyH_done (by kernel_rfl) ?_ _
  refine NoPanic.normal ?_
  go_wp2_with fail
  rw [rounds_succ]
  go_wp2_with fail
  refine wp_region_noPanic ?_
  refine wp_region_held_drew (S := (fun w' => w'.cell? ⟨b, off + Q + 1, none⟩ = some (.int .u8 x1))) (by kernel_rfl) (by go_keep) (fun hHeld => ?_)
  refine rtk 0 (h := ?_)
  refine rtk 3 (h := ?_)
  refine rtk 4 (h := ?_)
  refine rtk 5 (h := ?_)
  refine rtk 6 (h := ?_)
  refine rtk 7 (h := ?_)
  refine rcl 1 (h := fun K hK => ?_)
  go_simp
  refine hK.out _ _ (by go_keep) (fun hHeld => ?_)
  clear hK K
  refine rtk 2 (h := ?_)
  refine rtk 8 (h := ?_)
  refine rtk 9 (h := ?_)
  refine rcl 10 (h := fun K hK => ?_)
  go_simp
  refine hK.out _ _ (by go_keep) (fun hHeld => ?_)
  clear hK K
  refine wpAnyH_done (by kernel_rfl) ?_ _
  refine NoPanic.normal ?_
  go_wp2_with fail
  rw [rounds_succ]
  go_wp2
  (try simp only [Exit.inBlock, Exit.then])
  refine bodyPost_ret (res_p2 (B := w.heap.size) (v0 := .int .i64 id) (v1 := .int .i64 (x0 * 256 + x1)) (v2 := .string ⟨#[]⟩) (v3 := .string ⟨#[]⟩) rfl rfl ?c0 ?c1 ?c2 ?c3) rfl ?_
  case c0 => simp only [World.cell?_drew]; rw [World.cell?_alloc_lt _ _ _ (by simpa using hl1)]; simp (maxDischargeDepth := 12) [cell_set, q0]
  case c1 => simp only [World.cell?_drew]; rw [World.cell?_alloc_lt _ _ _ (by simpa using hl1)]; simp (maxDischargeDepth := 12) [cell_set, q1]
  case c2 => simp only [World.cell?_drew]; rw [World.cell?_alloc_lt _ _ _ (by simpa using hl1)]; simp (maxDischargeDepth := 12) [cell_set, q2]
  case c3 => simp only [World.cell?_drew]; rw [World.cell?_alloc_lt _ _ _ (by simpa using hl1)]; simp (maxDischargeDepth := 12) [cell_set, q3]
  refine ⟨?_, by have := unhide HB1; go_grown⟩
  rw [unhide HBE]
  go_num
set_option maxHeartbeats 2000000 in
theorem rg_num2_bad (v : Value) (l : List Int) (w : World) (h : Byt w v l) (id : Int) (Q : Nat) (hv : V.vget l = (id, (Q : Int), 0)) (hQ : 1 ≤ Q ∧ Q ≤ l.length) (hQ4 : Q ≤ 4) (hk : kd id = 2) (hM2 : l.length < Q + 2) : Calls Tryz.prog 196 #[v] w (RgBad w) := by
  obtain ⟨b, off, cap, rfl, hc1, hc2⟩ := h.form1 (by omega)
  unfold maxLen at hc2
  have HV := hide h
  have Hhv := hide hv
  have HKD := hide hk
  clear h hv hk 
  generalize hn : l.length = n at hc1 hQ HV hM2
  have HN := hide hn
  clear hn
  by_cases hcQ : cap = Q
  · have e1 : Q = cap := hcQ.symm
    clear hcQ
    subst e1
    have e2 : Q = n := by omega
    subst e2
    go_enter Tryz.func196, Tryz.ntmps196
    go_wp2_with fail
    refine (rvget_good _ l _ ((unhide HV).below ((Below.refl _ _).alloc (Nat.le_refl _) _)) id Q (unhide Hhv)).mono ?_
    rintro e w1 ⟨rfl, hb1⟩
    have HB1 : Hid (Below w.heap.size w w1) := ((Below.refl _ _).alloc (Nat.le_refl _) _).trans (hb1.mono (by simp))
    have HD : Hid (Byt w1 (.slice (some ⟨b, off, none⟩) 0 0) (l.drop Q)) := by
      show Byt _ _ _
      have := ((unhide HV).below (unhide HB1)).drop' Q (by omega)
      rw [if_pos rfl, Nat.sub_self] at this; exact this
    obtain ⟨⟨q0, f0⟩, ⟨q1, f1⟩, ⟨q2, f2⟩, q3, f3⟩ := four_new hb1
    have hl1 : w.heap.size < w1.heap.size := cell_lt q0
    have hne : ¬ w1.heap.size = w.heap.size := by omega
    clear hb1
    go_wp2_with (first | (go_at_call 187; refine (kind_tell id 2 (unhide HKD) _).mono ?_; rintro e w2 ⟨rfl, hw⟩; obtain rfl := hw.symm; clear hw) | fail)
    (try simp only [Exit.inBlock, Exit.then])
    refine bodyPost_ret (res_p2 (B := w.heap.size) (v0 := .int .i64 id) (v1 := .int .i64 0) (v2 := .string ⟨#[]⟩) (v3 := .string ⟨#[]⟩) rfl rfl ?c0 ?c1 ?c2 ?c3) rfl ?_
    case c0 => rw [World.cell?_alloc_lt _ _ _ (by simpa using hl1)]; simp (maxDischargeDepth := 12) [cell_set, q0]
    case c1 => rw [World.cell?_alloc_lt _ _ _ (by simpa using hl1)]; simp (maxDischargeDepth := 12) [cell_set, q1]
    case c2 => rw [World.cell?_alloc_lt _ _ _ (by simpa using hl1)]; simp (maxDischargeDepth := 12) [cell_set, q2]
    case c3 => rw [World.cell?_alloc_lt _ _ _ (by simpa using hl1)]; simp (maxDischargeDepth := 12) [cell_set, q3]
    exact ⟨_, _, _, _, rfl, by have := unhide HB1; go_grown⟩
  · go_enter Tryz.func196, Tryz.ntmps196
    go_wp2_with fail
    refine (rvget_good _ l _ ((unhide HV).below ((Below.refl _ _).alloc (Nat.le_refl _) _)) id Q (unhide Hhv)).mono ?_
    rintro e w1 ⟨rfl, hb1⟩
    have HB1 : Hid (Below w.heap.size w w1) := ((Below.refl _ _).alloc (Nat.le_refl _) _).trans (hb1.mono (by simp))
    have HD : Hid (Byt w1 (.slice (some ⟨b, off + Q, none⟩) (n - Q) (cap - Q)) (l.drop Q)) := by
      show Byt _ _ _
      have := ((unhide HV).below (unhide HB1)).drop' Q (by omega)
      rw [if_neg hcQ] at this; exact this
    obtain ⟨⟨q0, f0⟩, ⟨q1, f1⟩, ⟨q2, f2⟩, q3, f3⟩ := four_new hb1
    have hl1 : w.heap.size < w1.heap.size := cell_lt q0
    have hne : ¬ w1.heap.size = w.heap.size := by omega
    clear hb1
    go_wp2_with (first | (go_at_call 187; refine (kind_tell id 2 (unhide HKD) _).mono ?_; rintro e w2 ⟨rfl, hw⟩; obtain rfl := hw.symm; clear hw) | fail)
    (try simp only [Exit.inBlock, Exit.then])
    refine bodyPost_ret (res_p2 (B := w.heap.size) (v0 := .int .i64 id) (v1 := .int .i64 0) (v2 := .string ⟨#[]⟩) (v3 := .string ⟨#[]⟩) rfl rfl ?c0 ?c1 ?c2 ?c3) rfl ?_
    case c0 => rw [World.cell?_alloc_lt _ _ _ (by simpa using hl1)]; simp (maxDischargeDepth := 12) [cell_set, q0]
    case c1 => rw [World.cell?_alloc_lt _ _ _ (by simpa using hl1)]; simp (maxDischargeDepth := 12) [cell_set, q1]
    case c2 => rw [World.cell?_alloc_lt _ _ _ (by simpa using hl1)]; simp (maxDischargeDepth := 12) [cell_set, q2]
    case c3 => rw [World.cell?_alloc_lt _ _ _ (by simpa using hl1)]; simp (maxDischargeDepth := 12) [cell_set, q3]
    exact ⟨_, _, _, _, rfl, by have := unhide HB1; go_grown⟩
set_option maxHeartbeats 2000000 in
theorem rg_num4 (v : Value) (l : List Int) (w : World) (h : Byt w v l) (id : Int) (Q : Nat) (hv : V.vget l = (id, (Q : Int), 0)) (hQ : 1 ≤ Q ∧ Q ≤ l.length) (hQ4 : Q ≤ 4) (hk : kd id = 4) (hM2 : Q + 4 ≤ l.length) : Calls Tryz.prog 196 #[v] w (RgOk (id, be 4 (l.drop Q), es, es) (Q + 4 : Nat) w) := by
  obtain ⟨x0, hx0⟩ : ∃ x, (l.drop Q).getD 0 0 = x := ⟨_, rfl⟩
  have r0 := Rng.drop h.range Q 0
  rw [hx0] at r0
  obtain ⟨x1, hx1⟩ : ∃ x, (l.drop Q).getD 1 0 = x := ⟨_, rfl⟩
  have r1 := Rng.drop h.range Q 1
  rw [hx1] at r1
  obtain ⟨x2, hx2⟩ : ∃ x, (l.drop Q).getD 2 0 = x := ⟨_, rfl⟩
  have r2 := Rng.drop h.range Q 2
  rw [hx2] at r2
  obtain ⟨x3, hx3⟩ : ∃ x, (l.drop Q).getD 3 0 = x := ⟨_, rfl⟩
  have r3 := Rng.drop h.range Q 3
  rw [hx3] at r3
  have hbe : be 4 (l.drop Q) = ((x0 * 256 + x1) * 256 + x2) * 256 + x3 := by unfold be; simp only [hx0, hx1, hx2, hx3]; simp
  obtain ⟨b, off, cap, rfl, hc1, hc2⟩ := h.form1 (by omega)
  unfold maxLen at hc2
  have HCC : Hid (∀ W : World, Byt W (.slice (some ⟨b, off + Q, none⟩) (l.length - Q) (cap - Q)) (l.drop Q) → ∀ j, j < 4 → W.cell? ⟨b, off + Q + j, none⟩ = some (.int .u8 ((l.drop Q).getD j 0))) := fun W hW j hj => by
    obtain ⟨ao', cap', e, _, _, hcase⟩ := hW
    simp only [Value.slice.injEq] at e
    obtain ⟨rfl, _, _⟩ := e
    rcases hcase with hc | ⟨b', off', e', hc⟩
    · have := congrArg List.length hc
      simp at this
      omega
    · simp only [Option.some.injEq, Addr.mk.injEq] at e'
      obtain ⟨rfl, rfl, _⟩ := e'
      exact hc j (by rw [List.length_drop]; omega)
  have HCB : Hid (∀ W : World, Byt W (.slice (some ⟨b, off + Q, none⟩) (l.length - Q) (cap - Q)) (l.drop Q) → b < W.heap.size) := fun W hW => cell_lt ((unhide HCC) W hW 0 (by omega))
  have HX0 := hide hx0
  clear hx0
  have HX1 := hide hx1
  clear hx1
  have HX2 := hide hx2
  clear hx2
  have HX3 := hide hx3
  clear hx3
  have HBE := hide hbe
  clear hbe
  have HV := hide h
  have Hhv := hide hv
  have HKD := hide hk
  clear h hv hk 
  generalize hn : l.length = n at hc1 hQ HV hM2 HCC HCB
  have HN := hide hn
  clear hn
  have hcQ : ¬ cap = Q := by omega
  go_enter Tryz.func196, Tryz.ntmps196
  go_wp2_with fail
  refine (rvget_good _ l _ ((unhide HV).below ((Below.refl _ _).alloc (Nat.le_refl _) _)) id Q (unhide Hhv)).mono ?_
  rintro e w1 ⟨rfl, hb1⟩
  have HB1 : Hid (Below w.heap.size w w1) := ((Below.refl _ _).alloc (Nat.le_refl _) _).trans (hb1.mono (by simp))
  have HD : Hid (Byt w1 (.slice (some ⟨b, off + Q, none⟩) (n - Q) (cap - Q)) (l.drop Q)) := by
    show Byt _ _ _
    have := ((unhide HV).below (unhide HB1)).drop' Q (by omega)
    rw [if_neg hcQ] at this; exact this
  obtain ⟨⟨q0, f0⟩, ⟨q1, f1⟩, ⟨q2, f2⟩, q3, f3⟩ := four_new hb1
  have hl1 : w.heap.size < w1.heap.size := cell_lt q0
  have hne : ¬ w1.heap.size = w.heap.size := by omega
  clear hb1
  have hbl : b < w1.heap.size := (unhide HCB) w1 (unhide HD)
  have y0 : w1.cell? ⟨b, off + Q, none⟩ = some (.int .u8 x0) := by
    have := (unhide HCC) w1 (unhide HD) 0 (by omega)
    rw [unhide HX0] at this
    exact this
  have y1 : w1.cell? ⟨b, off + Q + 1, none⟩ = some (.int .u8 x1) := by
    have := (unhide HCC) w1 (unhide HD) 1 (by omega)
    rw [unhide HX1] at this
    exact this
  have y2 : w1.cell? ⟨b, off + Q + 2, none⟩ = some (.int .u8 x2) := by
    have := (unhide HCC) w1 (unhide HD) 2 (by omega)
    rw [unhide HX2] at this
    exact this
  have y3 : w1.cell? ⟨b, off + Q + 3, none⟩ = some (.int .u8 x3) := by
    have := (unhide HCC) w1 (unhide HD) 3 (by omega)
    rw [unhide HX3] at this
    exact this
  have ix0 : ((0 : Nat) : Int) < ((n - Q : Nat) : Int) := by omega
  have iy0 : (0 : Int) < ((n - Q : Nat) : Int) := by omega
  have iz0 : 0 < n - Q := by omega
  have ix1 : ((1 : Nat) : Int) < ((n - Q : Nat) : Int) := by omega
  have iy1 : (1 : Int) < ((n - Q : Nat) : Int) := by omega
  have iz1 : 1 < n - Q := by omega
  have ix2 : ((2 : Nat) : Int) < ((n - Q : Nat) : Int) := by omega
  have iy2 : (2 : Int) < ((n - Q : Nat) : Int) := by omega
  have iz2 : 2 < n - Q := by omega
  have ix3 : ((3 : Nat) : Int) < ((n - Q : Nat) : Int) := by omega
  have iy3 : (3 : Int) < ((n - Q : Nat) : Int) := by omega
  have iz3 : 3 < n - Q := by omega
  have hnb : ¬ b = w1.heap.size := by omega
  have e0 : bits .or .i64 0 x0 = x0 := V.or_zero x0 r0.1 (by omega)
  have e1 := or_256 (x0) x1 (by omega) (by omega) r1.1 r1.2
  have e2 := or_256 (x0 * 256 + x1) x2 (by omega) (by omega) r2.1 r2.2
  have e3 := or_256 ((x0 * 256 + x1) * 256 + x2) x3 (by omega) (by omega) r3.1 r3.2
  go_wp2_with (first | (go_at_call 187; refine (kind_tell id 4 (unhide HKD) _).mono ?_; rintro e w2 ⟨rfl, hw⟩; obtain rfl := hw.symm; clear hw) | fail)
  refine wp_loop_rounds 5 ?_
  rw [rounds_succ]
  go_wp2_with fail
  refine wp_region_noPanic ?_
  refine wp_region_held_drew (S := (fun w' => w'.cell? ⟨b, off + Q, none⟩ = some (.int .u8 x0))) (by kernel_rfl) (by go_keep) (fun hHeld => ?_)
  refine rtk 0 (h := ?_)
  refine rtk 3 (h := ?_)
  refine rtk 4 (h := ?_)
  refine rtk 5 (h := ?_)
  refine rtk 6 (h := ?_)
  refine rtk 7 (h := ?_)
  refine rcl 1 (h := fun K hK => ?_)
  go_simp
  refine hK.out _ _ (by go_keep) (fun hHeld => ?_)
  clear hK K
  refine rtk 2 (h := ?_)
  refine rtk 8 (h := ?_)
  refine rtk 9 (h := ?_)
  refine rcl 10 (h := fun K hK => ?_)
  go_simp
  refine hK.out _ _ (by go_keep) (fun hHeld => ?_)
  clear hK K
  refine wpAnyH_done (by kernel_rfl) ?_ _
  refine NoPanic.normal ?_
  go_wp2_with fail
  rw [rounds_succ]
  go_wp2_with fail
  refine wp_region_noPanic ?_
  refine wp_region_held_drew (S := (fun w' => w'.cell? ⟨b, off + Q + 1, none⟩ = some (.int .u8 x1))) (by kernel_rfl) (by go_keep) (fun hHeld => ?_)
  refine rtk 0 (h := ?_)
  refine rtk 3 (h := ?_)
  refine rtk 4 (h := ?_)
  refine rtk 5 (h := ?_)
  refine rtk 6 (h := ?_)
  refine rtk 7 (h := ?_)
  refine rcl 1 (h := fun K hK => ?_)
  go_simp
  refine hK.out _ _ (by go_keep) (fun hHeld => ?_)
  clear hK K
  refine rtk 2 (h := ?_)
  refine rtk 8 (h := ?_)
  refine rtk 9 (h := ?_)
  refine rcl 10 (h := fun K hK => ?_)
  go_simp
  refine hK.out _ _ (by go_keep) (fun hHeld => ?_)
  clear hK K
  refine wpAnyH_done (by kernel_rfl) ?_ _
  refine NoPanic.normal ?_
  go_wp2_with fail
  rw [rounds_succ]
  go_wp2_with fail
  refine wp_region_noPanic ?_
  refine wp_region_held_drew (S := (fun w' => w'.cell? ⟨b, off + Q + 2, none⟩ = some (.int .u8 x2))) (by kernel_rfl) (by go_keep) (fun hHeld => ?_)
  refine rtk 0 (h := ?_)
  refine rtk 3 (h := ?_)
  refine rtk 4 (h := ?_)
  refine rtk 5 (h := ?_)
  refine rtk 6 (h := ?_)
  refine rtk 7 (h := ?_)
  refine rcl 1 (h := fun K hK => ?_)
  go_simp
  refine hK.out _ _ (by go_keep) (fun hHeld => ?_)
  clear hK K
  refine rtk 2 (h := ?_)
  refine rtk 8 (h := ?_)
  refine rtk 9 (h := ?_)
  refine rcl 10 (h := fun K hK => ?_)
  go_simp
  refine hK.out _ _ (by go_keep) (fun hHeld => ?_)
  clear hK K
  refine wpAnyH_done (by kernel_rfl) ?_ _
  refine NoPanic.normal ?_
  go_wp2_with fail
  rw [rounds_succ]
  go_wp2_with fail
  refine wp_region_noPanic ?_
  refine wp_region_held_drew (S := (fun w' => w'.cell? ⟨b, off + Q + 3, none⟩ = some (.int .u8 x3))) (by kernel_rfl) (by go_keep) (fun hHeld => ?_)
  refine rtk 0 (h := ?_)
  refine rtk 3 (h := ?_)
  refine rtk 4 (h := ?_)
  refine rtk 5 (h := ?_)
  refine rtk 6 (h := ?_)
  refine rtk 7 (h := ?_)
  refine rcl 1 (h := fun K hK => ?_)
  go_simp
  refine hK.out _ _ (by go_keep) (fun hHeld => ?_)
  clear hK K
  refine rtk 2 (h := ?_)
  refine rtk 8 (h := ?_)
  refine rtk 9 (h := ?_)
  refine rcl 10 (h := fun K hK => ?_)
  go_simp
  refine hK.out _ _ (by go_keep) (fun hHeld => ?_)
  clear hK K
  refine wpAnyH_done (by kernel_rfl) ?_ _
  refine NoPanic.normal ?_
  go_wp2_with fail
  rw [rounds_succ]
  go_wp2
  (try simp only [Exit.inBlock, Exit.then])
  refine bodyPost_ret (res_p2 (B := w.heap.size) (v0 := .int .i64 id) (v1 := .int .i64 (((x0 * 256 + x1) * 256 + x2) * 256 + x3)) (v2 := .string ⟨#[]⟩) (v3 := .string ⟨#[]⟩) rfl rfl ?c0 ?c1 ?c2 ?c3) rfl ?_
  case c0 => simp only [World.cell?_drew]; rw [World.cell?_alloc_lt _ _ _ (by simpa using hl1)]; simp (maxDischargeDepth := 12) [cell_set, q0]
  case c1 => simp only [World.cell?_drew]; rw [World.cell?_alloc_lt _ _ _ (by simpa using hl1)]; simp (maxDischargeDepth := 12) [cell_set, q1]
  case c2 => simp only [World.cell?_drew]; rw [World.cell?_alloc_lt _ _ _ (by simpa using hl1)]; simp (maxDischargeDepth := 12) [cell_set, q2]
  case c3 => simp only [World.cell?_drew]; rw [World.cell?_alloc_lt _ _ _ (by simpa using hl1)]; simp (maxDischargeDepth := 12) [cell_set, q3]
  refine ⟨?_, by have := unhide HB1; go_grown⟩
  rw [unhide HBE]
  go_num
set_option maxHeartbeats 2000000 in
theorem rg_num4_bad (v : Value) (l : List Int) (w : World) (h : Byt w v l) (id : Int) (Q : Nat) (hv : V.vget l = (id, (Q : Int), 0)) (hQ : 1 ≤ Q ∧ Q ≤ l.length) (hQ4 : Q ≤ 4) (hk : kd id = 4) (hM2 : l.length < Q + 4) : Calls Tryz.prog 196 #[v] w (RgBad w) := by
  obtain ⟨b, off, cap, rfl, hc1, hc2⟩ := h.form1 (by omega)
  unfold maxLen at hc2
  have HV := hide h
  have Hhv := hide hv
  have HKD := hide hk
  clear h hv hk 
  generalize hn : l.length = n at hc1 hQ HV hM2
  have HN := hide hn
  clear hn
  by_cases hcQ : cap = Q
  · have e1 : Q = cap := hcQ.symm
    clear hcQ
    subst e1
    have e2 : Q = n := by omega
    subst e2
    go_enter Tryz.func196, Tryz.ntmps196
    go_wp2_with fail
    refine (rvget_good _ l _ ((unhide HV).below ((Below.refl _ _).alloc (Nat.le_refl _) _)) id Q (unhide Hhv)).mono ?_
    rintro e w1 ⟨rfl, hb1⟩
    have HB1 : Hid (Below w.heap.size w w1) := ((Below.refl _ _).alloc (Nat.le_refl _) _).trans (hb1.mono (by simp))
    have HD : Hid (Byt w1 (.slice (some ⟨b, off, none⟩) 0 0) (l.drop Q)) := by
      show Byt _ _ _
      have := ((unhide HV).below (unhide HB1)).drop' Q (by omega)
      rw [if_pos rfl, Nat.sub_self] at this; exact this
    obtain ⟨⟨q0, f0⟩, ⟨q1, f1⟩, ⟨q2, f2⟩, q3, f3⟩ := four_new hb1
    have hl1 : w.heap.size < w1.heap.size := cell_lt q0
    have hne : ¬ w1.heap.size = w.heap.size := by omega
    clear hb1
    go_wp2_with (first | (go_at_call 187; refine (kind_tell id 4 (unhide HKD) _).mono ?_; rintro e w2 ⟨rfl, hw⟩; obtain rfl := hw.symm; clear hw) | fail)
    (try simp only [Exit.inBlock, Exit.then])
    refine bodyPost_ret (res_p2 (B := w.heap.size) (v0 := .int .i64 id) (v1 := .int .i64 0) (v2 := .string ⟨#[]⟩) (v3 := .string ⟨#[]⟩) rfl rfl ?c0 ?c1 ?c2 ?c3) rfl ?_
    case c0 => rw [World.cell?_alloc_lt _ _ _ (by simpa using hl1)]; simp (maxDischargeDepth := 12) [cell_set, q0]
    case c1 => rw [World.cell?_alloc_lt _ _ _ (by simpa using hl1)]; simp (maxDischargeDepth := 12) [cell_set, q1]
    case c2 => rw [World.cell?_alloc_lt _ _ _ (by simpa using hl1)]; simp (maxDischargeDepth := 12) [cell_set, q2]
    case c3 => rw [World.cell?_alloc_lt _ _ _ (by simpa using hl1)]; simp (maxDischargeDepth := 12) [cell_set, q3]
    exact ⟨_, _, _, _, rfl, by have := unhide HB1; go_grown⟩
  · go_enter Tryz.func196, Tryz.ntmps196
    go_wp2_with fail
    refine (rvget_good _ l _ ((unhide HV).below ((Below.refl _ _).alloc (Nat.le_refl _) _)) id Q (unhide Hhv)).mono ?_
    rintro e w1 ⟨rfl, hb1⟩
    have HB1 : Hid (Below w.heap.size w w1) := ((Below.refl _ _).alloc (Nat.le_refl _) _).trans (hb1.mono (by simp))
    have HD : Hid (Byt w1 (.slice (some ⟨b, off + Q, none⟩) (n - Q) (cap - Q)) (l.drop Q)) := by
      show Byt _ _ _
      have := ((unhide HV).below (unhide HB1)).drop' Q (by omega)
      rw [if_neg hcQ] at this; exact this
    obtain ⟨⟨q0, f0⟩, ⟨q1, f1⟩, ⟨q2, f2⟩, q3, f3⟩ := four_new hb1
    have hl1 : w.heap.size < w1.heap.size := cell_lt q0
    have hne : ¬ w1.heap.size = w.heap.size := by omega
    clear hb1
    go_wp2_with (first | (go_at_call 187; refine (kind_tell id 4 (unhide HKD) _).mono ?_; rintro e w2 ⟨rfl, hw⟩; obtain rfl := hw.symm; clear hw) | fail)
    (try simp only [Exit.inBlock, Exit.then])
    refine bodyPost_ret (res_p2 (B := w.heap.size) (v0 := .int .i64 id) (v1 := .int .i64 0) (v2 := .string ⟨#[]⟩) (v3 := .string ⟨#[]⟩) rfl rfl ?c0 ?c1 ?c2 ?c3) rfl ?_
    case c0 => rw [World.cell?_alloc_lt _ _ _ (by simpa using hl1)]; simp (maxDischargeDepth := 12) [cell_set, q0]
    case c1 => rw [World.cell?_alloc_lt _ _ _ (by simpa using hl1)]; simp (maxDischargeDepth := 12) [cell_set, q1]
    case c2 => rw [World.cell?_alloc_lt _ _ _ (by simpa using hl1)]; simp (maxDischargeDepth := 12) [cell_set, q2]
    case c3 => rw [World.cell?_alloc_lt _ _ _ (by simpa using hl1)]; simp (maxDischargeDepth := 12) [cell_set, q3]
    exact ⟨_, _, _, _, rfl, by have := unhide HB1; go_grown⟩
set_option maxHeartbeats 4000000 in
theorem rg_pair (v : Value) (l : List Int) (w : World) (h : Byt w v l) (id : Int) (Q : Nat) (hv : V.vget l = (id, (Q : Int), 0)) (hQ : 1 ≤ Q ∧ Q ≤ l.length) (hQ4 : Q ≤ 4) (hk : kd id = 8) (s : ByteArray) (M : Nat) (hg : gt (l.drop Q) = (s, (M : Int), 0)) (hM : 2 ≤ M) (hM2 : Q + M ≤ l.length) (t : ByteArray) (T : Nat) (ht : gt ((l.drop Q).drop M) = (t, (T : Int), 0)) (hT : 2 ≤ T) (hT2 : Q + M + T ≤ l.length) : Calls Tryz.prog 196 #[v] w (RgOk (id, 0, s, t) (Q + (M + T) : Nat) w) := by
  obtain ⟨b, off, cap, rfl, hc1, hc2⟩ := h.form1 (by omega)
  unfold maxLen at hc2
  have HV := hide h
  have Hhv := hide hv
  have HKD := hide hk
  have Hhg := hide hg
  have Hht := hide ht
  clear h hv hk hg ht
  generalize hn : l.length = n at hc1 hQ HV hM2 hT2
  have HN := hide hn
  clear hn
  have HD0 : Hid (Byt w (.slice (some ⟨b, off + Q, none⟩) (n - Q) (cap - Q)) (l.drop Q)) := by
    show Byt _ _ _
    have := (unhide HV).drop' Q (by omega)
    rw [if_neg (by omega)] at this
    skip
    exact this
  have HDD : Hid (Byt w (.slice (some ⟨b, off + Q + M, none⟩) (n - Q - M) (cap - Q - M)) ((l.drop Q).drop M)) := by
    show Byt _ _ _
    have := (unhide HD0).drop' M (by omega)
    rw [if_neg (by omega)] at this
    exact this
  go_enter Tryz.func196, Tryz.ntmps196
  go_wp2_with fail
  refine (rvget_good _ l _ ((unhide HV).below ((Below.refl _ _).alloc (Nat.le_refl _) _)) id Q (unhide Hhv)).mono ?_
  rintro e w1 ⟨rfl, hb1⟩
  have HB1 : Hid (Below w.heap.size w w1) := ((Below.refl _ _).alloc (Nat.le_refl _) _).trans (hb1.mono (by simp))
  obtain ⟨⟨q0, f0⟩, ⟨q1, f1⟩, ⟨q2, f2⟩, q3, f3⟩ := four_new hb1
  have hl1 : w.heap.size < w1.heap.size := cell_lt q0
  have hne : ¬ w1.heap.size = w.heap.size := by omega
  clear hb1
  go_wp2_with (first | (go_at_call 187; refine (kind_tell id 8 (unhide HKD) _).mono ?_; rintro e w2 ⟨rfl, hw⟩; obtain rfl := hw.symm; clear hw) | fail)
  refine (rtget_good _ _ _ (((unhide HD0).below (unhide HB1)).below ((Below.refl _ _).alloc (Nat.le_refl _) _)) s M (unhide Hhg)).mono ?_
  rintro e w2 ⟨rfl, hb2⟩
  obtain ⟨⟨p0, h0⟩, ⟨p1, h1⟩, ⟨p2, h2⟩, p3, h3⟩ := four_new hb2
  obtain ⟨⟨r0, g0⟩, ⟨r1, g1⟩, ⟨r2, g2⟩, r3, g3⟩ := four_old hb2 q0 f0 q1 f1 q2 f2 q3 f3
  have HB2 : Hid (Below w.heap.size w w2) := ((unhide HB1).alloc (unhide HB1).size _).trans (hb2.mono (by simp; omega))
  clear hb2
  have HB2s : Hid (Below w.heap.size w (w2.setCell ⟨w1.heap.size, 2, none⟩ (.string s))) := (unhide HB2).setCell (by show w.heap.size ≤ w1.heap.size; omega) _
  have hl2 : w1.heap.size < w2.heap.size := cell_lt p0
  go_wp2_with fail
  refine (rtget_good _ _ _ ((unhide HDD).below (unhide HB2s)) t T (unhide Hht)).mono ?_
  rintro e w3 ⟨rfl, hb3⟩
  have P0 : w3.cell? ⟨w1.heap.size, 0, none⟩ = some (.int .i64 id) := (hb3.cell (p := ⟨w1.heap.size, 0, none⟩) (by simp; omega)).trans (by simp (maxDischargeDepth := 12) [cell_set, p0])
  have F0 : w3.frozen? ⟨w1.heap.size, 0, none⟩ = false := (hb3.frozen (p := ⟨w1.heap.size, 0, none⟩) (by simp; omega)).trans (by rw [World.frozen?_setCell]; exact h0)
  have R0 : w3.cell? ⟨w.heap.size, 0, none⟩ = some (.int .i64 0) := (hb3.cell (p := ⟨w.heap.size, 0, none⟩) (by simp; omega)).trans ((World.cell?_setCell_far _ _ _ _ hne).trans r0)
  have G0 : w3.frozen? ⟨w.heap.size, 0, none⟩ = false := (hb3.frozen (p := ⟨w.heap.size, 0, none⟩) (by simp; omega)).trans (by rw [World.frozen?_setCell]; exact g0)
  have P1 : w3.cell? ⟨w1.heap.size, 1, none⟩ = some (.int .i64 0) := (hb3.cell (p := ⟨w1.heap.size, 1, none⟩) (by simp; omega)).trans (by simp (maxDischargeDepth := 12) [cell_set, p1])
  have F1 : w3.frozen? ⟨w1.heap.size, 1, none⟩ = false := (hb3.frozen (p := ⟨w1.heap.size, 1, none⟩) (by simp; omega)).trans (by rw [World.frozen?_setCell]; exact h1)
  have R1 : w3.cell? ⟨w.heap.size, 1, none⟩ = some (.int .i64 0) := (hb3.cell (p := ⟨w.heap.size, 1, none⟩) (by simp; omega)).trans ((World.cell?_setCell_far _ _ _ _ hne).trans r1)
  have G1 : w3.frozen? ⟨w.heap.size, 1, none⟩ = false := (hb3.frozen (p := ⟨w.heap.size, 1, none⟩) (by simp; omega)).trans (by rw [World.frozen?_setCell]; exact g1)
  have P2 : w3.cell? ⟨w1.heap.size, 2, none⟩ = some (.string s) := (hb3.cell (p := ⟨w1.heap.size, 2, none⟩) (by simp; omega)).trans (by simp (maxDischargeDepth := 12) [cell_set, p2])
  have F2 : w3.frozen? ⟨w1.heap.size, 2, none⟩ = false := (hb3.frozen (p := ⟨w1.heap.size, 2, none⟩) (by simp; omega)).trans (by rw [World.frozen?_setCell]; exact h2)
  have R2 : w3.cell? ⟨w.heap.size, 2, none⟩ = some (.string ⟨#[]⟩) := (hb3.cell (p := ⟨w.heap.size, 2, none⟩) (by simp; omega)).trans ((World.cell?_setCell_far _ _ _ _ hne).trans r2)
  have G2 : w3.frozen? ⟨w.heap.size, 2, none⟩ = false := (hb3.frozen (p := ⟨w.heap.size, 2, none⟩) (by simp; omega)).trans (by rw [World.frozen?_setCell]; exact g2)
  have P3 : w3.cell? ⟨w1.heap.size, 3, none⟩ = some (.string ⟨#[]⟩) := (hb3.cell (p := ⟨w1.heap.size, 3, none⟩) (by simp; omega)).trans (by simp (maxDischargeDepth := 12) [cell_set, p3])
  have F3 : w3.frozen? ⟨w1.heap.size, 3, none⟩ = false := (hb3.frozen (p := ⟨w1.heap.size, 3, none⟩) (by simp; omega)).trans (by rw [World.frozen?_setCell]; exact h3)
  have R3 : w3.cell? ⟨w.heap.size, 3, none⟩ = some (.string ⟨#[]⟩) := (hb3.cell (p := ⟨w.heap.size, 3, none⟩) (by simp; omega)).trans ((World.cell?_setCell_far _ _ _ _ hne).trans r3)
  have G3 : w3.frozen? ⟨w.heap.size, 3, none⟩ = false := (hb3.frozen (p := ⟨w.heap.size, 3, none⟩) (by simp; omega)).trans (by rw [World.frozen?_setCell]; exact g3)
  have HB3 : Hid (Below w.heap.size w w3) := (unhide HB2s).trans (hb3.mono (by simp; omega))
  clear hb3 HB2s HB2 HB1 HDD HD0 p0 h0 r0 g0 q0 f0 p1 h1 r1 g1 q1 f1 p2 h2 r2 g2 q2 f2 p3 h3 r3 g3 q3 f3
  go_wp2
  (try simp only [Exit.inBlock, Exit.then])
  refine bodyPost_ret (res_p2 (B := w.heap.size) (v0 := .int .i64 id) (v1 := .int .i64 0) (v2 := .string s) (v3 := .string t) rfl rfl ?c0 ?c1 ?c2 ?c3) rfl ?_
  case c0 => simp (maxDischargeDepth := 12) [cell_set, R0]
  case c1 => simp (maxDischargeDepth := 12) [cell_set, R1]
  case c2 => simp (maxDischargeDepth := 12) [cell_set, R2]
  case c3 => simp (maxDischargeDepth := 12) [cell_set, R3]
  exact ⟨by go_num, by have := unhide HB3; go_grown⟩
set_option maxHeartbeats 4000000 in
theorem rg_pair_bad2 (v : Value) (l : List Int) (w : World) (h : Byt w v l) (id : Int) (Q : Nat) (hv : V.vget l = (id, (Q : Int), 0)) (hQ : 1 ≤ Q ∧ Q ≤ l.length) (hQ4 : Q ≤ 4) (hk : kd id = 8) (s : ByteArray) (M : Nat) (hg : gt (l.drop Q) = (s, (M : Int), 0)) (hM : 2 ≤ M) (hM2 : Q + M ≤ l.length) (m : Int) (ht : (gt ((l.drop Q).drop M)).2.2 = m) (hm : m ≠ 0) : Calls Tryz.prog 196 #[v] w (RgBad w) := by
  obtain ⟨b, off, cap, rfl, hc1, hc2⟩ := h.form1 (by omega)
  unfold maxLen at hc2
  have HV := hide h
  have Hhv := hide hv
  have HKD := hide hk
  have Hhg := hide hg
  have Hht := hide ht
  clear h hv hk hg ht
  generalize hn : l.length = n at hc1 hQ HV hM2
  have HN := hide hn
  clear hn
  by_cases hcM : cap = Q + M
  · have e1 : n = Q + M := by omega
    subst hcM
    subst e1
    have HD0 : Hid (Byt w (.slice (some ⟨b, off + Q, none⟩) M M) (l.drop Q)) := by
      show Byt _ _ _
      have := (unhide HV).drop' Q (by omega)
      rw [if_neg (by omega)] at this
      rw [Nat.add_sub_cancel_left] at this
      exact this
    have HDD : Hid (Byt w (.slice (some ⟨b, off + Q, none⟩) 0 0) ((l.drop Q).drop M)) := by
      show Byt _ _ _
      have := (unhide HD0).drop' M (by omega)
      rw [if_pos rfl, Nat.sub_self] at this
      exact this
    go_enter Tryz.func196, Tryz.ntmps196
    go_wp2_with fail
    refine (rvget_good _ l _ ((unhide HV).below ((Below.refl _ _).alloc (Nat.le_refl _) _)) id Q (unhide Hhv)).mono ?_
    rintro e w1 ⟨rfl, hb1⟩
    have HB1 : Hid (Below w.heap.size w w1) := ((Below.refl _ _).alloc (Nat.le_refl _) _).trans (hb1.mono (by simp))
    obtain ⟨⟨q0, f0⟩, ⟨q1, f1⟩, ⟨q2, f2⟩, q3, f3⟩ := four_new hb1
    have hl1 : w.heap.size < w1.heap.size := cell_lt q0
    have hne : ¬ w1.heap.size = w.heap.size := by omega
    clear hb1
    go_wp2_with (first | (go_at_call 187; refine (kind_tell id 8 (unhide HKD) _).mono ?_; rintro e w2 ⟨rfl, hw⟩; obtain rfl := hw.symm; clear hw) | fail)
    refine (rtget_good _ _ _ (((unhide HD0).below (unhide HB1)).below ((Below.refl _ _).alloc (Nat.le_refl _) _)) s M (unhide Hhg)).mono ?_
    rintro e w2 ⟨rfl, hb2⟩
    obtain ⟨⟨p0, h0⟩, ⟨p1, h1⟩, ⟨p2, h2⟩, p3, h3⟩ := four_new hb2
    obtain ⟨⟨r0, g0⟩, ⟨r1, g1⟩, ⟨r2, g2⟩, r3, g3⟩ := four_old hb2 q0 f0 q1 f1 q2 f2 q3 f3
    have HB2 : Hid (Below w.heap.size w w2) := ((unhide HB1).alloc (unhide HB1).size _).trans (hb2.mono (by simp; omega))
    clear hb2
    have HB2s : Hid (Below w.heap.size w (w2.setCell ⟨w1.heap.size, 2, none⟩ (.string s))) := (unhide HB2).setCell (by show w.heap.size ≤ w1.heap.size; omega) _
    have hl2 : w1.heap.size < w2.heap.size := cell_lt p0
    go_wp2_with fail
    refine (rtget_fail _ _ _ ((unhide HDD).below (unhide HB2s)) m (unhide Hht)).mono ?_
    rintro e w3 ⟨a, b2, rfl, hb3⟩
    have P0 : w3.cell? ⟨w1.heap.size, 0, none⟩ = some (.int .i64 id) := (hb3.cell (p := ⟨w1.heap.size, 0, none⟩) (by simp; omega)).trans (by simp (maxDischargeDepth := 12) [cell_set, p0])
    have F0 : w3.frozen? ⟨w1.heap.size, 0, none⟩ = false := (hb3.frozen (p := ⟨w1.heap.size, 0, none⟩) (by simp; omega)).trans (by rw [World.frozen?_setCell]; exact h0)
    have R0 : w3.cell? ⟨w.heap.size, 0, none⟩ = some (.int .i64 0) := (hb3.cell (p := ⟨w.heap.size, 0, none⟩) (by simp; omega)).trans ((World.cell?_setCell_far _ _ _ _ hne).trans r0)
    have G0 : w3.frozen? ⟨w.heap.size, 0, none⟩ = false := (hb3.frozen (p := ⟨w.heap.size, 0, none⟩) (by simp; omega)).trans (by rw [World.frozen?_setCell]; exact g0)
    have P1 : w3.cell? ⟨w1.heap.size, 1, none⟩ = some (.int .i64 0) := (hb3.cell (p := ⟨w1.heap.size, 1, none⟩) (by simp; omega)).trans (by simp (maxDischargeDepth := 12) [cell_set, p1])
    have F1 : w3.frozen? ⟨w1.heap.size, 1, none⟩ = false := (hb3.frozen (p := ⟨w1.heap.size, 1, none⟩) (by simp; omega)).trans (by rw [World.frozen?_setCell]; exact h1)
    have R1 : w3.cell? ⟨w.heap.size, 1, none⟩ = some (.int .i64 0) := (hb3.cell (p := ⟨w.heap.size, 1, none⟩) (by simp; omega)).trans ((World.cell?_setCell_far _ _ _ _ hne).trans r1)
    have G1 : w3.frozen? ⟨w.heap.size, 1, none⟩ = false := (hb3.frozen (p := ⟨w.heap.size, 1, none⟩) (by simp; omega)).trans (by rw [World.frozen?_setCell]; exact g1)
    have P2 : w3.cell? ⟨w1.heap.size, 2, none⟩ = some (.string s) := (hb3.cell (p := ⟨w1.heap.size, 2, none⟩) (by simp; omega)).trans (by simp (maxDischargeDepth := 12) [cell_set, p2])
    have F2 : w3.frozen? ⟨w1.heap.size, 2, none⟩ = false := (hb3.frozen (p := ⟨w1.heap.size, 2, none⟩) (by simp; omega)).trans (by rw [World.frozen?_setCell]; exact h2)
    have R2 : w3.cell? ⟨w.heap.size, 2, none⟩ = some (.string ⟨#[]⟩) := (hb3.cell (p := ⟨w.heap.size, 2, none⟩) (by simp; omega)).trans ((World.cell?_setCell_far _ _ _ _ hne).trans r2)
    have G2 : w3.frozen? ⟨w.heap.size, 2, none⟩ = false := (hb3.frozen (p := ⟨w.heap.size, 2, none⟩) (by simp; omega)).trans (by rw [World.frozen?_setCell]; exact g2)
    have P3 : w3.cell? ⟨w1.heap.size, 3, none⟩ = some (.string ⟨#[]⟩) := (hb3.cell (p := ⟨w1.heap.size, 3, none⟩) (by simp; omega)).trans (by simp (maxDischargeDepth := 12) [cell_set, p3])
    have F3 : w3.frozen? ⟨w1.heap.size, 3, none⟩ = false := (hb3.frozen (p := ⟨w1.heap.size, 3, none⟩) (by simp; omega)).trans (by rw [World.frozen?_setCell]; exact h3)
    have R3 : w3.cell? ⟨w.heap.size, 3, none⟩ = some (.string ⟨#[]⟩) := (hb3.cell (p := ⟨w.heap.size, 3, none⟩) (by simp; omega)).trans ((World.cell?_setCell_far _ _ _ _ hne).trans r3)
    have G3 : w3.frozen? ⟨w.heap.size, 3, none⟩ = false := (hb3.frozen (p := ⟨w.heap.size, 3, none⟩) (by simp; omega)).trans (by rw [World.frozen?_setCell]; exact g3)
    have HB3 : Hid (Below w.heap.size w w3) := (unhide HB2s).trans (hb3.mono (by simp; omega))
    clear hb3 HB2s HB2 HB1 HDD HD0 p0 h0 r0 g0 q0 f0 p1 h1 r1 g1 q1 f1 p2 h2 r2 g2 q2 f2 p3 h3 r3 g3 q3 f3
    go_wp2
    (try simp only [Exit.inBlock, Exit.then])
    refine bodyPost_ret (res_p2 (B := w.heap.size) (v0 := .int .i64 id) (v1 := .int .i64 0) (v2 := .string s) (v3 := .string a) rfl rfl ?c0 ?c1 ?c2 ?c3) rfl ?_
    case c0 => simp (maxDischargeDepth := 12) [cell_set, R0]
    case c1 => simp (maxDischargeDepth := 12) [cell_set, R1]
    case c2 => simp (maxDischargeDepth := 12) [cell_set, R2]
    case c3 => simp (maxDischargeDepth := 12) [cell_set, R3]
    exact ⟨_, _, _, _, rfl, by have := unhide HB3; go_grown⟩
  · have HD0 : Hid (Byt w (.slice (some ⟨b, off + Q, none⟩) (n - Q) (cap - Q)) (l.drop Q)) := by
      show Byt _ _ _
      have := (unhide HV).drop' Q (by omega)
      rw [if_neg (by omega)] at this
      skip
      exact this
    have HDD : Hid (Byt w (.slice (some ⟨b, off + Q + M, none⟩) (n - Q - M) (cap - Q - M)) ((l.drop Q).drop M)) := by
      show Byt _ _ _
      have := (unhide HD0).drop' M (by omega)
      rw [if_neg (by omega)] at this
      exact this
    go_enter Tryz.func196, Tryz.ntmps196
    go_wp2_with fail
    refine (rvget_good _ l _ ((unhide HV).below ((Below.refl _ _).alloc (Nat.le_refl _) _)) id Q (unhide Hhv)).mono ?_
    rintro e w1 ⟨rfl, hb1⟩
    have HB1 : Hid (Below w.heap.size w w1) := ((Below.refl _ _).alloc (Nat.le_refl _) _).trans (hb1.mono (by simp))
    obtain ⟨⟨q0, f0⟩, ⟨q1, f1⟩, ⟨q2, f2⟩, q3, f3⟩ := four_new hb1
    have hl1 : w.heap.size < w1.heap.size := cell_lt q0
    have hne : ¬ w1.heap.size = w.heap.size := by omega
    clear hb1
    go_wp2_with (first | (go_at_call 187; refine (kind_tell id 8 (unhide HKD) _).mono ?_; rintro e w2 ⟨rfl, hw⟩; obtain rfl := hw.symm; clear hw) | fail)
    refine (rtget_good _ _ _ (((unhide HD0).below (unhide HB1)).below ((Below.refl _ _).alloc (Nat.le_refl _) _)) s M (unhide Hhg)).mono ?_
    rintro e w2 ⟨rfl, hb2⟩
    obtain ⟨⟨p0, h0⟩, ⟨p1, h1⟩, ⟨p2, h2⟩, p3, h3⟩ := four_new hb2
    obtain ⟨⟨r0, g0⟩, ⟨r1, g1⟩, ⟨r2, g2⟩, r3, g3⟩ := four_old hb2 q0 f0 q1 f1 q2 f2 q3 f3
    have HB2 : Hid (Below w.heap.size w w2) := ((unhide HB1).alloc (unhide HB1).size _).trans (hb2.mono (by simp; omega))
    clear hb2
    have HB2s : Hid (Below w.heap.size w (w2.setCell ⟨w1.heap.size, 2, none⟩ (.string s))) := (unhide HB2).setCell (by show w.heap.size ≤ w1.heap.size; omega) _
    have hl2 : w1.heap.size < w2.heap.size := cell_lt p0
    go_wp2_with fail
    refine (rtget_fail _ _ _ ((unhide HDD).below (unhide HB2s)) m (unhide Hht)).mono ?_
    rintro e w3 ⟨a, b2, rfl, hb3⟩
    have P0 : w3.cell? ⟨w1.heap.size, 0, none⟩ = some (.int .i64 id) := (hb3.cell (p := ⟨w1.heap.size, 0, none⟩) (by simp; omega)).trans (by simp (maxDischargeDepth := 12) [cell_set, p0])
    have F0 : w3.frozen? ⟨w1.heap.size, 0, none⟩ = false := (hb3.frozen (p := ⟨w1.heap.size, 0, none⟩) (by simp; omega)).trans (by rw [World.frozen?_setCell]; exact h0)
    have R0 : w3.cell? ⟨w.heap.size, 0, none⟩ = some (.int .i64 0) := (hb3.cell (p := ⟨w.heap.size, 0, none⟩) (by simp; omega)).trans ((World.cell?_setCell_far _ _ _ _ hne).trans r0)
    have G0 : w3.frozen? ⟨w.heap.size, 0, none⟩ = false := (hb3.frozen (p := ⟨w.heap.size, 0, none⟩) (by simp; omega)).trans (by rw [World.frozen?_setCell]; exact g0)
    have P1 : w3.cell? ⟨w1.heap.size, 1, none⟩ = some (.int .i64 0) := (hb3.cell (p := ⟨w1.heap.size, 1, none⟩) (by simp; omega)).trans (by simp (maxDischargeDepth := 12) [cell_set, p1])
    have F1 : w3.frozen? ⟨w1.heap.size, 1, none⟩ = false := (hb3.frozen (p := ⟨w1.heap.size, 1, none⟩) (by simp; omega)).trans (by rw [World.frozen?_setCell]; exact h1)
    have R1 : w3.cell? ⟨w.heap.size, 1, none⟩ = some (.int .i64 0) := (hb3.cell (p := ⟨w.heap.size, 1, none⟩) (by simp; omega)).trans ((World.cell?_setCell_far _ _ _ _ hne).trans r1)
    have G1 : w3.frozen? ⟨w.heap.size, 1, none⟩ = false := (hb3.frozen (p := ⟨w.heap.size, 1, none⟩) (by simp; omega)).trans (by rw [World.frozen?_setCell]; exact g1)
    have P2 : w3.cell? ⟨w1.heap.size, 2, none⟩ = some (.string s) := (hb3.cell (p := ⟨w1.heap.size, 2, none⟩) (by simp; omega)).trans (by simp (maxDischargeDepth := 12) [cell_set, p2])
    have F2 : w3.frozen? ⟨w1.heap.size, 2, none⟩ = false := (hb3.frozen (p := ⟨w1.heap.size, 2, none⟩) (by simp; omega)).trans (by rw [World.frozen?_setCell]; exact h2)
    have R2 : w3.cell? ⟨w.heap.size, 2, none⟩ = some (.string ⟨#[]⟩) := (hb3.cell (p := ⟨w.heap.size, 2, none⟩) (by simp; omega)).trans ((World.cell?_setCell_far _ _ _ _ hne).trans r2)
    have G2 : w3.frozen? ⟨w.heap.size, 2, none⟩ = false := (hb3.frozen (p := ⟨w.heap.size, 2, none⟩) (by simp; omega)).trans (by rw [World.frozen?_setCell]; exact g2)
    have P3 : w3.cell? ⟨w1.heap.size, 3, none⟩ = some (.string ⟨#[]⟩) := (hb3.cell (p := ⟨w1.heap.size, 3, none⟩) (by simp; omega)).trans (by simp (maxDischargeDepth := 12) [cell_set, p3])
    have F3 : w3.frozen? ⟨w1.heap.size, 3, none⟩ = false := (hb3.frozen (p := ⟨w1.heap.size, 3, none⟩) (by simp; omega)).trans (by rw [World.frozen?_setCell]; exact h3)
    have R3 : w3.cell? ⟨w.heap.size, 3, none⟩ = some (.string ⟨#[]⟩) := (hb3.cell (p := ⟨w.heap.size, 3, none⟩) (by simp; omega)).trans ((World.cell?_setCell_far _ _ _ _ hne).trans r3)
    have G3 : w3.frozen? ⟨w.heap.size, 3, none⟩ = false := (hb3.frozen (p := ⟨w.heap.size, 3, none⟩) (by simp; omega)).trans (by rw [World.frozen?_setCell]; exact g3)
    have HB3 : Hid (Below w.heap.size w w3) := (unhide HB2s).trans (hb3.mono (by simp; omega))
    clear hb3 HB2s HB2 HB1 HDD HD0 p0 h0 r0 g0 q0 f0 p1 h1 r1 g1 q1 f1 p2 h2 r2 g2 q2 f2 p3 h3 r3 g3 q3 f3
    go_wp2
    (try simp only [Exit.inBlock, Exit.then])
    refine bodyPost_ret (res_p2 (B := w.heap.size) (v0 := .int .i64 id) (v1 := .int .i64 0) (v2 := .string s) (v3 := .string a) rfl rfl ?c0 ?c1 ?c2 ?c3) rfl ?_
    case c0 => simp (maxDischargeDepth := 12) [cell_set, R0]
    case c1 => simp (maxDischargeDepth := 12) [cell_set, R1]
    case c2 => simp (maxDischargeDepth := 12) [cell_set, R2]
    case c3 => simp (maxDischargeDepth := 12) [cell_set, R3]
    exact ⟨_, _, _, _, rfl, by have := unhide HB3; go_grown⟩
set_option maxHeartbeats 2000000 in
theorem rg_pair_bad1 (v : Value) (l : List Int) (w : World) (h : Byt w v l) (id : Int) (Q : Nat) (hv : V.vget l = (id, (Q : Int), 0)) (hQ : 1 ≤ Q ∧ Q ≤ l.length) (hQ4 : Q ≤ 4) (hk : kd id = 8) (m : Int) (hg : (gt (l.drop Q)).2.2 = m) (hm : m ≠ 0) : Calls Tryz.prog 196 #[v] w (RgBad w) := by
  obtain ⟨b, off, cap, rfl, hc1, hc2⟩ := h.form1 (by omega)
  unfold maxLen at hc2
  have HV := hide h
  have Hhv := hide hv
  have HKD := hide hk
  have Hhg := hide hg
  clear h hv hk hg
  generalize hn : l.length = n at hc1 hQ HV 
  have HN := hide hn
  clear hn
  by_cases hcQ : cap = Q
  · have e1 : Q = cap := hcQ.symm
    clear hcQ
    subst e1
    have e2 : Q = n := by omega
    subst e2
    go_enter Tryz.func196, Tryz.ntmps196
    go_wp2_with fail
    refine (rvget_good _ l _ ((unhide HV).below ((Below.refl _ _).alloc (Nat.le_refl _) _)) id Q (unhide Hhv)).mono ?_
    rintro e w1 ⟨rfl, hb1⟩
    have HB1 : Hid (Below w.heap.size w w1) := ((Below.refl _ _).alloc (Nat.le_refl _) _).trans (hb1.mono (by simp))
    have HD : Hid (Byt w1 (.slice (some ⟨b, off, none⟩) 0 0) (l.drop Q)) := by
      show Byt _ _ _
      have := ((unhide HV).below (unhide HB1)).drop' Q (by omega)
      rw [if_pos rfl, Nat.sub_self] at this; exact this
    obtain ⟨⟨q0, f0⟩, ⟨q1, f1⟩, ⟨q2, f2⟩, q3, f3⟩ := four_new hb1
    have hl1 : w.heap.size < w1.heap.size := cell_lt q0
    have hne : ¬ w1.heap.size = w.heap.size := by omega
    clear hb1
    go_wp2_with (first | (go_at_call 187; refine (kind_tell id 8 (unhide HKD) _).mono ?_; rintro e w2 ⟨rfl, hw⟩; obtain rfl := hw.symm; clear hw) | fail)
    refine (rtget_fail _ _ _ ((unhide HD).below ((Below.refl _ _).alloc (Nat.le_refl _) _)) m (unhide Hhg)).mono ?_
    rintro e w2 ⟨a, b2, rfl, hb2⟩
    obtain ⟨⟨p0, h0⟩, ⟨p1, h1⟩, ⟨p2, h2⟩, p3, h3⟩ := four_new hb2
    obtain ⟨⟨r0, g0⟩, ⟨r1, g1⟩, ⟨r2, g2⟩, r3, g3⟩ := four_old hb2 q0 f0 q1 f1 q2 f2 q3 f3
    have HB2 : Hid (Below w.heap.size w w2) := ((unhide HB1).alloc (unhide HB1).size _).trans (hb2.mono (by simp; omega))
    clear hb2
    go_wp2
    (try simp only [Exit.inBlock, Exit.then])
    refine bodyPost_ret (res_p2 (B := w.heap.size) (v0 := .int .i64 id) (v1 := .int .i64 0) (v2 := .string a) (v3 := .string ⟨#[]⟩) rfl rfl ?c0 ?c1 ?c2 ?c3) rfl ?_
    case c0 => simp (maxDischargeDepth := 12) [cell_set, r0]
    case c1 => simp (maxDischargeDepth := 12) [cell_set, r1]
    case c2 => simp (maxDischargeDepth := 12) [cell_set, r2]
    case c3 => simp (maxDischargeDepth := 12) [cell_set, r3]
    exact ⟨_, _, _, _, rfl, by have := unhide HB2; go_grown⟩
  · go_enter Tryz.func196, Tryz.ntmps196
    go_wp2_with fail
    refine (rvget_good _ l _ ((unhide HV).below ((Below.refl _ _).alloc (Nat.le_refl _) _)) id Q (unhide Hhv)).mono ?_
    rintro e w1 ⟨rfl, hb1⟩
    have HB1 : Hid (Below w.heap.size w w1) := ((Below.refl _ _).alloc (Nat.le_refl _) _).trans (hb1.mono (by simp))
    have HD : Hid (Byt w1 (.slice (some ⟨b, off + Q, none⟩) (n - Q) (cap - Q)) (l.drop Q)) := by
      show Byt _ _ _
      have := ((unhide HV).below (unhide HB1)).drop' Q (by omega)
      rw [if_neg hcQ] at this; exact this
    obtain ⟨⟨q0, f0⟩, ⟨q1, f1⟩, ⟨q2, f2⟩, q3, f3⟩ := four_new hb1
    have hl1 : w.heap.size < w1.heap.size := cell_lt q0
    have hne : ¬ w1.heap.size = w.heap.size := by omega
    clear hb1
    go_wp2_with (first | (go_at_call 187; refine (kind_tell id 8 (unhide HKD) _).mono ?_; rintro e w2 ⟨rfl, hw⟩; obtain rfl := hw.symm; clear hw) | fail)
    refine (rtget_fail _ _ _ ((unhide HD).below ((Below.refl _ _).alloc (Nat.le_refl _) _)) m (unhide Hhg)).mono ?_
    rintro e w2 ⟨a, b2, rfl, hb2⟩
    obtain ⟨⟨p0, h0⟩, ⟨p1, h1⟩, ⟨p2, h2⟩, p3, h3⟩ := four_new hb2
    obtain ⟨⟨r0, g0⟩, ⟨r1, g1⟩, ⟨r2, g2⟩, r3, g3⟩ := four_old hb2 q0 f0 q1 f1 q2 f2 q3 f3
    have HB2 : Hid (Below w.heap.size w w2) := ((unhide HB1).alloc (unhide HB1).size _).trans (hb2.mono (by simp; omega))
    clear hb2
    go_wp2
    (try simp only [Exit.inBlock, Exit.then])
    refine bodyPost_ret (res_p2 (B := w.heap.size) (v0 := .int .i64 id) (v1 := .int .i64 0) (v2 := .string a) (v3 := .string ⟨#[]⟩) rfl rfl ?c0 ?c1 ?c2 ?c3) rfl ?_
    case c0 => simp (maxDischargeDepth := 12) [cell_set, r0]
    case c1 => simp (maxDischargeDepth := 12) [cell_set, r1]
    case c2 => simp (maxDischargeDepth := 12) [cell_set, r2]
    case c3 => simp (maxDischargeDepth := 12) [cell_set, r3]
    exact ⟨_, _, _, _, rfl, by have := unhide HB2; go_grown⟩
theorem rg_id_bad (v : Value) (l : List Int) (w : World) (h : Byt w v l) (m : Int) (hv : (V.vget l).2.2 = m) (hm : m ≠ 0) : Calls Tryz.prog 196 #[v] w (RgBad w) := by
  obtain ⟨ao, cap, rfl, hc1, hc2⟩ := h.form
  have HV := hide h
  have Hhv := hide hv
  clear h hv
  generalize hn : l.length = n at hc1 HV
  go_enter Tryz.func196, Tryz.ntmps196
  go_wp2_with fail
  refine (rvget_fail _ l _ ((unhide HV).below ((Below.refl _ _).alloc (Nat.le_refl _) _)) m (unhide Hhv)).mono ?_
  rintro e w1 ⟨a, b, rfl, hb1⟩
  have HB1 : Hid (Below w.heap.size w w1) := ((Below.refl _ _).alloc (Nat.le_refl _) _).trans (hb1.mono (by simp))
  obtain ⟨⟨q0, f0⟩, ⟨q1, f1⟩, ⟨q2, f2⟩, q3, f3⟩ := four_new hb1
  clear hb1
  go_wp2
  (try simp only [Exit.inBlock, Exit.then])
  refine bodyPost_ret (res_p2 (B := w.heap.size) (v0 := .int .i64 0) (v1 := .int .i64 0) (v2 := .string ⟨#[]⟩) (v3 := .string ⟨#[]⟩) rfl rfl ?c0 ?c1 ?c2 ?c3) rfl ?_
  case c0 => simp (maxDischargeDepth := 12) [cell_set, q0]
  case c1 => simp (maxDischargeDepth := 12) [cell_set, q1]
  case c2 => simp (maxDischargeDepth := 12) [cell_set, q2]
  case c3 => simp (maxDischargeDepth := 12) [cell_set, q3]
  exact ⟨_, _, _, _, rfl, by have := unhide HB1; go_grown⟩
end Go.Proofs.YtpoeakillimibaaGreatDoor
