/- Proved here: one property with which bytes begin, and all of which bytes are made, as plain functions; prop.getOne tells the first. Helpers. -/
import Derived.Test.YtpoeakillimibaaGreatDoorM31
import Derived.Test.YtpoeakillimibaaGreatDoorM20
namespace Go.Proofs.YtpoeakillimibaaGreatDoor
open Go.RowKit
set_option maxRecDepth 100000

/-- what a property of a kind has, read off bytes: whether it is there, its number, its texts, how many bytes -/
def gval (k : Int) (l : List Int) : Bool × Int × ByteArray × ByteArray × Nat :=
  if k = 1 ∨ k = 2 ∨ k = 4 then (decide (k ≤ l.length), be k l, es, es, k.toNat)
  else if k = 5 then (decide ((V.vget l).2.2 = 0), (V.vget l).1, es, es, (V.vget l).2.1.toNat)
  else if k = 6 then (decide ((gt l).2.2 = 0), 0, (gt l).1, es, (gt l).2.1.toNat)
  else if k = 7 then (decide ((gbn l).2.2 = 0), 0, (gbn l).1, es, (gbn l).2.1.toNat)
  else if k = 8 then (decide ((gt l).2.2 = 0) && decide ((gt (l.drop (gt l).2.1.toNat)).2.2 = 0), 0, (gt l).1, (gt (l.drop (gt l).2.1.toNat)).1, (gt l).2.1.toNat + (gt (l.drop (gt l).2.1.toNat)).2.1.toNat)
  else (false, 0, es, es, 0)
def gid (l : List Int) : Int := (V.vget l).1
def ghd (l : List Int) : Nat := (V.vget l).2.1.toNat
def grs (l : List Int) : Bool × Int × ByteArray × ByteArray × Nat := gval (kd (gid l)) (l.drop (ghd l))
def gok (l : List Int) : Bool := decide ((V.vget l).2.2 = 0) && (grs l).1
def gpr (l : List Int) : Pr := (gid l, (grs l).2.1, (grs l).2.2.1, (grs l).2.2.2.1)
def gsz (l : List Int) : Nat := ghd l + (grs l).2.2.2.2
/-- the properties of which bytes are made -/
def parse (l : List Int) : Option (List Pr) :=
  if _h : l = [] then some [] else if gok l = true then (parse (l.drop (max 1 (gsz l)))).map (gpr l :: ·) else none
termination_by l.length
decreasing_by
  rw [List.length_drop]
  have := List.length_pos_iff.2 _h
  omega
def Rng (l : List Int) : Prop := ∀ j, 0 ≤ l.getD j 0 ∧ l.getD j 0 ≤ 255
theorem Rng.drop {l : List Int} (h : Rng l) (k : Nat) : Rng (l.drop k) := fun j => by
  rw [List.getD_eq_getElem?_getD, List.getElem?_drop, ← List.getD_eq_getElem?_getD]; exact h _
theorem vget_is (l : List Int) (hr : Rng l) (h : (V.vget l).2.2 = 0) : V.vget l = (gid l, (ghd l : Int), 0) ∧ 1 ≤ ghd l ∧ ghd l ≤ l.length ∧ 0 ≤ gid l ∧ gid l ≤ 268435455 ∧ V.put (gid l) = l.take (ghd l) := by
  obtain ⟨n, k, e, he⟩ : ∃ n k e, V.vget l = (n, k, e) := ⟨_, _, _, rfl⟩
  rw [he] at h
  simp only at h
  subst h
  obtain ⟨h0, h1, K, rfl, h2, h3, h4⟩ := V.vget_ok l hr n k he
  have e1 : gid l = n := by unfold gid; rw [he]
  have e2 : ghd l = K := by unfold ghd; rw [he]; simp
  rw [e1, e2]
  exact ⟨he, h2, h3, h0, h1, h4⟩
theorem gt_is (l : List Int) (h : (gt l).2.2 = 0) : gt l = ((gt l).1, (((gt l).2.1.toNat : Nat) : Int), 0) ∧ 2 ≤ (gt l).2.1.toNat ∧ (gt l).2.1.toNat ≤ l.length ∧ utf (sb (gt l).1) = true ∧ (gt l).1 = gbs l := by
  rcases gt_cases l with ⟨s, K, hf, hu, rfl, rfl, hg⟩ | ⟨m, hm, hg⟩
  · rw [hg]
    unfold full at hf
    rw [Bool.and_eq_true, decide_eq_true_eq, decide_eq_true_eq] at hf
    refine ⟨by rw [Int.toNat_natCast], ?_, ?_, hu, rfl⟩
    · show 2 ≤ ((2 + nb l : Nat) : Int).toNat
      omega
    · show ((2 + nb l : Nat) : Int).toNat ≤ _
      omega
  · rw [hg] at h
    exact absurd h hm
theorem gbn_is (l : List Int) (h : (gbn l).2.2 = 0) : gbn l = ((gbn l).1, (((gbn l).2.1.toNat : Nat) : Int), 0) ∧ 2 ≤ (gbn l).2.1.toNat ∧ (gbn l).2.1.toNat ≤ l.length ∧ (gbn l).1 = gbs l := by
  unfold gbn at *
  by_cases hf : full l = true
  · rw [if_pos hf] at h ⊢
    unfold full at hf
    rw [Bool.and_eq_true, decide_eq_true_eq, decide_eq_true_eq] at hf
    refine ⟨by rw [Int.toNat_natCast], ?_, ?_, rfl⟩
    · show 2 ≤ ((2 + nb l : Nat) : Int).toNat
      omega
    · show ((2 + nb l : Nat) : Int).toNat ≤ _
      omega
  · rw [if_neg hf] at h
    simp at h
theorem gval_le (k : Int) (l : List Int) (hr : Rng l) (h : (gval k l).1 = true) : (gval k l).2.2.2.2 ≤ l.length := by
  unfold gval at h ⊢
  by_cases k1 : k = 1 ∨ k = 2 ∨ k = 4
  · rw [if_pos k1] at h ⊢
    simp only [decide_eq_true_eq] at h ⊢
    omega
  rw [if_neg k1] at h ⊢
  by_cases k5 : k = 5
  · rw [if_pos k5] at h ⊢
    simp only [decide_eq_true_eq] at h ⊢
    exact (vget_is l hr h).2.2.1
  rw [if_neg k5] at h ⊢
  by_cases k6 : k = 6
  · rw [if_pos k6] at h ⊢
    simp only [decide_eq_true_eq] at h ⊢
    exact (gt_is l h).2.2.1
  rw [if_neg k6] at h ⊢
  by_cases k7 : k = 7
  · rw [if_pos k7] at h ⊢
    simp only [decide_eq_true_eq] at h ⊢
    exact (gbn_is l h).2.2.1
  rw [if_neg k7] at h ⊢
  by_cases k8 : k = 8
  · rw [if_pos k8] at h ⊢
    simp only [Bool.and_eq_true, decide_eq_true_eq] at h ⊢
    have a := (gt_is l h.1).2.2.1
    have b := (gt_is _ h.2).2.2.1
    rw [List.length_drop] at b
    omega
  rw [if_neg k8] at h
  simp at h
theorem gok_le (l : List Int) (hr : Rng l) (h : gok l = true) : 1 ≤ gsz l ∧ gsz l ≤ l.length ∧ 0 ≤ gid l ∧ gid l ≤ 268435455 := by
  unfold gok at h
  rw [Bool.and_eq_true, decide_eq_true_eq] at h
  obtain ⟨_, a, b, c, d, _⟩ := vget_is l hr h.1
  have e := gval_le _ _ (hr.drop (ghd l)) h.2
  rw [List.length_drop] at e
  unfold gsz grs
  omega
theorem parse_nil : parse [] = some [] := by rw [parse, dif_pos rfl]
theorem parse_no (l : List Int) (h : l ≠ []) (hg : gok l = false) : parse l = none := by rw [parse, dif_neg h, if_neg (by rw [hg]; decide)]
theorem parse_yes (l : List Int) (h : l ≠ []) (hr : Rng l) (hg : gok l = true) : parse l = (parse (l.drop (gsz l))).map (gpr l :: ·) := by
  rw [parse, dif_neg h, if_pos hg, Nat.max_eq_right (gok_le l hr hg).1]
theorem getOne_good (v : Value) (l : List Int) (w : World) (h : Byt w v l) (hg : gok l = true) : Calls Tryz.prog 204 #[v] w (GoOk (gpr l) (gsz l) w) := by
  have hr := h.range
  have hle := gok_le l hr hg
  unfold gok at hg
  rw [Bool.and_eq_true, decide_eq_true_eq] at hg
  obtain ⟨hv, a, b, c, d, _⟩ := vget_is l hr hg.1
  have hg2 := hg.2
  have hl := gval_le _ _ (Rng.drop hr (ghd l)) hg2
  rw [List.length_drop] at hl
  unfold gpr gsz
  refine gone_ok v l w h (gid l) (ghd l) hv ⟨a, b⟩ (frm (gid l)) (wid (gid l)) (lst (gid l)) (mx (gid l)) rfl _ _ _ _ (by unfold grs; omega) ?_
  intro vb W hb
  have hfrm : frm (gid l) = (if kd (gid l) = 1 ∨ kd (gid l) = 2 ∨ kd (gid l) = 4 then 1 else if kd (gid l) = 5 then 2 else if kd (gid l) = 6 then 3 else if kd (gid l) = 7 then 4 else if kd (gid l) = 8 then 5 else 0) := rfl
  have hwid : wid (gid l) = (if kd (gid l) = 1 ∨ kd (gid l) = 2 ∨ kd (gid l) = 4 then kd (gid l) else 0) := rfl
  have hr' := Rng.drop hr (ghd l)
  unfold grs at hg2 ⊢
  generalize kd (gid l) = k at hg2 hfrm hwid ⊢
  generalize l.drop (ghd l) = m at hg2 hb hr' ⊢
  rw [hfrm, hwid]
  clear hfrm hwid
  unfold gval at hg2 ⊢
  by_cases k1 : k = 1 ∨ k = 2 ∨ k = 4
  · rw [if_pos k1] at hg2 ⊢
    rw [if_pos k1, if_pos k1]
    simp only [decide_eq_true_eq] at hg2 ⊢
    have := gval_num vb m W hb k (lst (gid l)) (mx (gid l)) k1 hg2
    rw [show ((k.toNat : Nat) : Int) = k from by omega]
    exact this
  rw [if_neg k1] at hg2 ⊢
  rw [if_neg k1, if_neg k1]
  by_cases k5 : k = 5
  · rw [if_pos k5] at hg2 ⊢
    rw [if_pos k5]
    simp only [decide_eq_true_eq] at hg2 ⊢
    obtain ⟨hv', _⟩ := vget_is m hr' hg2
    exact gval_var vb m W hb _ _ _ _ _ hv'
  rw [if_neg k5] at hg2 ⊢
  rw [if_neg k5]
  by_cases k6 : k = 6
  · rw [if_pos k6] at hg2 ⊢
    rw [if_pos k6]
    simp only [decide_eq_true_eq] at hg2 ⊢
    exact gval_text vb m W hb _ _ _ _ _ (gt_is m hg2).1
  rw [if_neg k6] at hg2 ⊢
  rw [if_neg k6]
  by_cases k7 : k = 7
  · rw [if_pos k7] at hg2 ⊢
    rw [if_pos k7]
    simp only [decide_eq_true_eq] at hg2 ⊢
    exact gval_bin vb m W hb _ _ _ _ _ (gbn_is m hg2).1
  rw [if_neg k7] at hg2 ⊢
  rw [if_neg k7]
  by_cases k8 : k = 8
  · rw [if_pos k8] at hg2 ⊢
    rw [if_pos k8]
    simp only [Bool.and_eq_true, decide_eq_true_eq] at hg2 ⊢
    obtain ⟨e1, e2, e3, _⟩ := gt_is m hg2.1
    obtain ⟨f1, f2, f3, _⟩ := gt_is _ hg2.2
    rw [List.length_drop] at f3
    exact gval_pair vb m W hb _ _ _ _ _ _ _ e1 f1 ⟨e2, e3⟩ (by omega)
  rw [if_neg k8] at hg2
  simp at hg2
theorem getOne_fail (v : Value) (l : List Int) (w : World) (h : Byt w v l) (hg : gok l = false) : Calls Tryz.prog 204 #[v] w (GvBad w) := by
  have hr := h.range
  by_cases hv0 : (V.vget l).2.2 = 0
  · obtain ⟨hv, a, b, c, d, _⟩ := vget_is l hr hv0
    have hg2 : (grs l).1 = false := by
      unfold gok at hg
      rw [hv0] at hg
      simpa using hg
    refine gone_bad2 v l w h (gid l) (ghd l) hv ⟨a, b⟩ (frm (gid l)) (wid (gid l)) (lst (gid l)) (mx (gid l)) rfl ?_
    intro vb W hb
    have hfrm : frm (gid l) = (if kd (gid l) = 1 ∨ kd (gid l) = 2 ∨ kd (gid l) = 4 then 1 else if kd (gid l) = 5 then 2 else if kd (gid l) = 6 then 3 else if kd (gid l) = 7 then 4 else if kd (gid l) = 8 then 5 else 0) := rfl
    have hwid : wid (gid l) = (if kd (gid l) = 1 ∨ kd (gid l) = 2 ∨ kd (gid l) = 4 then kd (gid l) else 0) := rfl
    unfold grs at hg2
    generalize kd (gid l) = k at hg2 hfrm hwid ⊢
    generalize l.drop (ghd l) = m at hg2 hb
    rw [hfrm, hwid]
    clear hfrm hwid
    unfold gval at hg2
    by_cases k1 : k = 1 ∨ k = 2 ∨ k = 4
    · rw [if_pos k1] at hg2
      rw [if_pos k1, if_pos k1]
      simp only [decide_eq_false_iff_not] at hg2
      exact gval_num_bad vb m W hb k _ _ (by omega)
    rw [if_neg k1] at hg2
    rw [if_neg k1, if_neg k1]
    by_cases k5 : k = 5
    · rw [if_pos k5] at hg2
      rw [if_pos k5]
      simp only [decide_eq_false_iff_not] at hg2
      exact gval_var_bad vb m W hb _ _ _ _ rfl hg2
    rw [if_neg k5] at hg2
    rw [if_neg k5]
    by_cases k6 : k = 6
    · rw [if_pos k6] at hg2
      rw [if_pos k6]
      simp only [decide_eq_false_iff_not] at hg2
      exact gval_text_bad vb m W hb _ _ _ _ rfl hg2
    rw [if_neg k6] at hg2
    rw [if_neg k6]
    by_cases k7 : k = 7
    · rw [if_pos k7] at hg2
      rw [if_pos k7]
      simp only [decide_eq_false_iff_not] at hg2
      exact gval_bin_bad vb m W hb _ _ _ _ rfl hg2
    rw [if_neg k7] at hg2
    rw [if_neg k7]
    by_cases k8 : k = 8
    · rw [if_pos k8] at hg2
      rw [if_pos k8]
      by_cases h1 : (gt m).2.2 = 0
      · obtain ⟨e1, e2, e3, _⟩ := gt_is m h1
        have h2 : ¬ (gt (m.drop (gt m).2.1.toNat)).2.2 = 0 := by
          rw [h1] at hg2
          simpa using hg2
        exact gval_pair_bad vb m W hb _ _ _ (fun W' hb' => gpair_bad2 vb m W' hb' _ _ e1 ⟨e2, e3⟩ _ rfl h2)
      · exact gval_pair_bad vb m W hb _ _ _ (fun W' hb' => gpair_bad1 vb m W' hb' _ rfl h1)
    rw [if_neg k8]
    exact gval_none vb m W hb _ _ _
  · exact gone_bad1 v l w h _ rfl hv0
/-- what is read has texts that may be -/
theorem gpr_txo (l : List Int) (hr : Rng l) (h : gok l = true) : txo (gpr l) = true ∧ (gpr l).2.2.1.size ≤ 65535 ∧ (gpr l).2.2.2.size ≤ 65535 := by
  unfold gok at h
  rw [Bool.and_eq_true, decide_eq_true_eq] at h
  have hg2 := h.2
  have hr' := hr.drop (ghd l)
  unfold gpr txo
  simp only
  unfold grs at hg2 ⊢
  generalize kd (gid l) = k at hg2 ⊢
  generalize l.drop (ghd l) = m at hg2 hr' ⊢
  have hes : es.size ≤ 65535 := by decide
  have key : ∀ s : ByteArray, utf (sb s) = true → s.size ≤ 65535 → chk (sb s) = 0 := fun s a b => by
    unfold chk
    rw [if_pos a, if_pos (by rw [sb_length]; exact b)]
  unfold gval at hg2 ⊢
  by_cases k1 : k = 1 ∨ k = 2 ∨ k = 4
  · rw [if_pos k1]
    rw [if_neg (by omega), if_neg (by omega), if_neg (by omega)]
    exact ⟨by simp; omega, hes, hes⟩
  rw [if_neg k1] at hg2 ⊢
  by_cases k5 : k = 5
  · rw [if_pos k5]
    rw [if_neg (by omega), if_neg (by omega), if_neg (by omega)]
    exact ⟨by simp; omega, hes, hes⟩
  rw [if_neg k5] at hg2 ⊢
  by_cases k6 : k = 6
  · rw [if_pos k6] at hg2 ⊢
    simp only [decide_eq_true_eq] at hg2 ⊢
    rw [if_pos k6]
    obtain ⟨_, _, _, hu, hs⟩ := gt_is m hg2
    have hz : (gt m).1.size ≤ 65535 := by rw [hs]; exact gbs_size m hr'
    exact ⟨key _ hu hz, hz, hes⟩
  rw [if_neg k6] at hg2 ⊢
  by_cases k7 : k = 7
  · rw [if_pos k7] at hg2 ⊢
    simp only [decide_eq_true_eq] at hg2 ⊢
    rw [if_neg k6, if_pos k7]
    obtain ⟨_, _, _, hs⟩ := gbn_is m hg2
    have hz : (gbn m).1.size ≤ 65535 := by rw [hs]; exact gbs_size m hr'
    exact ⟨hz, hz, hes⟩
  rw [if_neg k7] at hg2 ⊢
  by_cases k8 : k = 8
  · rw [if_pos k8] at hg2 ⊢
    simp only [Bool.and_eq_true, decide_eq_true_eq] at hg2 ⊢
    rw [if_neg k6, if_neg k7, if_pos k8]
    obtain ⟨_, _, _, hu, hs⟩ := gt_is m hg2.1
    obtain ⟨_, _, _, hu2, hs2⟩ := gt_is _ hg2.2
    have hz : (gt m).1.size ≤ 65535 := by rw [hs]; exact gbs_size m hr'
    have hz2 : (gt (m.drop (gt m).2.1.toNat)).1.size ≤ 65535 := by rw [hs2]; exact gbs_size _ (hr'.drop _)
    exact ⟨⟨key _ hu hz, key _ hu2 hz2⟩, hz, hz2⟩
  rw [if_neg k8] at hg2
  simp at hg2
/-- lists that begin alike -/
theorem at0_app (d e : List Pr) (i : Nat) (h : i < d.length) : at0 (d ++ e) i = at0 d i := by
  unfold at0
  rw [List.getD_eq_getElem?_getD, List.getElem?_append_left h, ← List.getD_eq_getElem?_getD]
theorem at0_mid (d e : List Pr) (p : Pr) : at0 (d ++ p :: e) d.length = p := by
  unfold at0
  simp
def sn (d : List Pr) (id : Int) : Bool := d.any fun q => decide (q.1 = id)
theorem seen_app (d e : List Pr) (i : Nat) (h : i ≤ d.length) (id : Int) : seen (d ++ e) i id = seen d i id := by
  unfold seen
  rw [List.take_append_of_le_length h]
theorem okAt_app (place : Int) (d e : List Pr) (i : Nat) (h : i < d.length) : okAt place (d ++ e) i = okAt place d i := by
  unfold okAt
  rw [at0_app d e i h, seen_app d e i (by omega)]
theorem okAt_mid (place : Int) (d e : List Pr) (p : Pr) : okAt place (d ++ p :: e) d.length = (tk place p.1 p.2.1 p.2.2.1 p.2.2.2 (sn d p.1) && txo p) := by
  rw [okAt_tk, at0_mid, seen_app d _ _ (Nat.le_refl _)]
  unfold seen sn
  rw [List.take_length]
theorem sn_snoc (d : List Pr) (p : Pr) (id : Int) : sn (d ++ [p]) id = (sn d id || decide (p.1 = id)) := by
  unfold sn
  rw [List.any_append]; simp
/-- the number that read tells -/
def rdn (place : Int) (l : List Int) : Int := match parse l with
  | none => 1
  | some q => chkP place q
theorem rdn_none (place : Int) (l : List Int) (h : parse l = none) : rdn place l = 1 := by unfold rdn; rw [h]
theorem rdn_some (place : Int) (l : List Int) (q : List Pr) (h : parse l = some q) : rdn place l = chkP place q := by unfold rdn; rw [h]
theorem rdn_bad (place : Int) (l r : List Int) (d : List Pr) (p : Pr) (h : parse l = (parse r).map ((d ++ [p]) ++ ·)) (hp : okAt place (d ++ [p]) d.length = false) : rdn place l = 1 := by
  cases hr : parse r with
  | none => rw [hr] at h; exact rdn_none place l h
  | some q =>
    rw [hr] at h
    rw [rdn_some place l _ h]
    refine chkP_bad place _ d.length (by simp) ?_
    rw [okAt_app place (d ++ [p]) q d.length (by simp)]
    exact hp
end Go.Proofs.YtpoeakillimibaaGreatDoor
