/- Proved here: merged twice a log is the same; merged it has the entries that it was handed. Helper laws. -/
import Derived.Test.YtnmcjjlpifemnaaDoorZEMr
namespace Go.Proofs.YtnmcjjlpifemnaaDoor.Et
open Go.RowKit Nt
set_option maxRecDepth 100000

theorem there_at {M : Lo} (hm : May M) {e : En} (h : There M e) (hi : M.b < e.1) : ∃ j : Nat, e.1 - M.b - 1 = (j : Int) ∧ j < M.es.length ∧ (en0 M.es j).2.1 = e.2.1 ∧ (en0 M.es j).1 = e.1 := by
  unfold There at h
  by_cases h5 : lastI M < e.1
  · rw [termAt_none (.inr h5)] at h; cases h
  · rw [termAt_some (by omega) (by omega)] at h
    have h6 : e.1 ≤ M.b + (M.es.length : Nat) := by unfold lastI at h5; omega
    refine ⟨(e.1 - M.b - 1).toNat, by omega, by omega, ?_, ?_⟩
    · have h7 : (e.1 - M.b).toNat = (e.1 - M.b - 1).toNat + 1 := by omega
      rw [h7] at h
      exact Option.some.inj h
    · rw [hm.idx _ (by omega)]
      omega
theorem there_own {L : Lo} (hm : May L) (j : Nat) (hj : j < L.es.length) : There L (en0 L.es j) := by
  unfold There
  rw [hm.idx j hj, termAt_some (by omega) (by unfold lastI; omega)]
  rw [show (L.b + 1 + (j : Nat) - L.b).toNat = j + 1 by omega]
  rfl
theorem termAt_base {L : Lo} : termAt L L.b = some L.t := by
  rw [termAt_some (Int.le_refl _) (by unfold lastI; omega), Int.sub_self]
  rfl
/-- what Merge has done where it tells no error and no miss -/
theorem mrgR_done {L M : Lo} {p u : Int} {es : List En} (h : mrgR L p u es = (0, false, M)) :
    May L ∧ MayMg p u es ∧ May M ∧ M.b = L.b ∧ M.t = L.t ∧ (∀ j, j < (mE L p es).length → There M (en0 (mE L p es) j)) ∧ termAt M (mP L p) = some (mU L p u) := by
  by_cases h1 : May L ∧ MayMg p u es
  · by_cases h2 : termAt L (mP L p) = some (mU L p u)
    · rw [mrgR_has h1 h2] at h
      injection h with e1 e2
      injection e2 with _ e3
      have hr : mgdR L (mE L p es) = (0, M) := Prod.ext e1 e3
      obtain ⟨hm, h01, h02, hu, hg⟩ := h1
      refine ⟨hm, ⟨h01, h02, hu, hg⟩, ?_⟩
      -- the entries go on behind the place
      have hb1 : L.b ≤ mP L p := by unfold mP; split <;> omega
      have hpl : mP L p ≤ lastI L := by
        by_cases h5 : lastI L < mP L p
        · rw [termAt_none (.inr h5)] at h2; cases h2
        · omega
      have hix : ∀ k, k < (mE L p es).length → (en0 (mE L p es) k).1 = mP L p + 1 + (k : Nat) := fun k hk => by
        unfold mE mP at *
        by_cases hpb : p < L.b
        · rw [if_pos hpb] at hk ⊢
          rw [List.length_drop] at hk
          rw [if_pos hpb, en0_drop, (hg _ (by omega)).1]
          omega
        · rw [if_neg hpb] at hk ⊢
          rw [if_neg hpb, (hg k hk).1]
      generalize mE L p es = E at hr hix
      generalize mP L p = P at h2 hb1 hpl hix
      generalize mU L p u = U at h2
      by_cases hall : ∀ j, j < E.length → There L (en0 E j)
      · rw [mgdR_all hall] at hr
        injection hr with _ hr
        subst hr
        exact ⟨hm, rfl, rfl, hall, h2⟩
      · obtain ⟨k, hk, hkn, hka⟩ : ∃ k, k < E.length ∧ ¬ There L (en0 E k) ∧ ∀ j, j < k → There L (en0 E j) := by
          have hex : ∃ k, k < E.length ∧ ¬ There L (en0 E k) := by
            refine Classical.byContradiction fun hc => hall fun j hj => ?_
            exact Classical.byContradiction fun ht => hc ⟨j, hj, ht⟩
          have key : ∀ n, (∃ k, k < n ∧ k < E.length ∧ ¬ There L (en0 E k)) → ∃ k, k < E.length ∧ ¬ There L (en0 E k) ∧ ∀ j, j < k → There L (en0 E j) := by
            intro n
            induction n with
            | zero => rintro ⟨k, hk, _⟩; omega
            | succ n ih =>
              rintro ⟨k, hk, hkE, hkt⟩
              by_cases hlow : ∃ k, k < n ∧ k < E.length ∧ ¬ There L (en0 E k)
              · exact ih hlow
              · refine ⟨k, hkE, hkt, fun j hj => ?_⟩
                exact Classical.byContradiction fun ht => hlow ⟨j, by omega, by omega, ht⟩
          obtain ⟨k, hk, hkt⟩ := hex
          exact key E.length ⟨k, hk, hk, hkt⟩
        rw [mgdR_off hk hka hkn] at hr
        have hq0 : P + (k : Int) ≤ lastI L := by
          rcases k with _ | k'
          · simpa using hpl
          · have h4 := hka k' (by omega)
            unfold There at h4
            rw [hix k' (by omega)] at h4
            by_cases h5 : lastI L < P + 1 + (k' : Int)
            · rw [termAt_none (.inr h5)] at h4; cases h4
            · omega
        obtain ⟨q, hq⟩ : ∃ q : Nat, P + (k : Int) = L.b + (q : Int) := ⟨(P + (k : Int) - L.b).toNat, by omega⟩
        have hqe : ((en0 E k).1 - 1 - L.b).toNat = q := by rw [hix k hk]; omega
        rw [hqe] at hr
        have hql : q ≤ L.es.length := by unfold lastI at hq0; omega
        unfold splR at hr
        by_cases hf : 512 < q + (E.drop k).length
        · rw [if_pos hf] at hr
          injection hr with hr _
          cases hr
        · rw [if_neg hf] at hr
          by_cases hmm : May ⟨L.b, L.t, L.es.take q ++ E.drop k⟩
          · rw [if_pos hmm] at hr
            injection hr with _ hr
            subst hr
            have htl : (L.es.take q).length = q := by rw [List.length_take]; omega
            have hlow : ∀ i, L.b ≤ i → i ≤ L.b + (q : Int) → termAt ⟨L.b, L.t, L.es.take q ++ E.drop k⟩ i = termAt L i := fun i hi1 hi2 => by
              rw [termAt_some (L := L) hi1 (by unfold lastI; omega), termAt_some (L := ⟨L.b, L.t, L.es.take q ++ E.drop k⟩) hi1 (by
                unfold lastI
                show i ≤ L.b + ((L.es.take q ++ E.drop k).length : Nat)
                rw [List.length_append, htl]
                omega)]
              show some (tmB L.t (L.es.take q ++ E.drop k) (i - L.b).toNat) = _
              rw [tmB_app1 _ _ _ _ (by rw [htl]; omega), tmB_take _ _ _ _ (by omega)]
            refine ⟨hmm, rfl, rfl, fun j hj => ?_, ?_⟩
            · by_cases hjk : j < k
              · have h4 := hka j hjk
                unfold There at h4 ⊢
                rw [hix j hj] at h4 ⊢
                rw [hlow _ (by omega) (by omega)]
                exact h4
              · unfold There
                have hjl : j - k < (E.drop k).length := by rw [List.length_drop]; omega
                rw [hix j hj, termAt_some (L := ⟨L.b, L.t, L.es.take q ++ E.drop k⟩) (by show L.b ≤ _; omega) (by
                  unfold lastI
                  show _ ≤ L.b + ((L.es.take q ++ E.drop k).length : Nat)
                  rw [List.length_append, htl]
                  omega)]
                show some (tmB L.t (L.es.take q ++ E.drop k) (P + 1 + (j : Nat) - L.b).toNat) = _
                rw [show (P + 1 + (j : Nat) - L.b).toNat = (q + (j - k)) + 1 by omega]
                show some (en0 (L.es.take q ++ E.drop k) (q + (j - k))).2.1 = _
                have h6 := en0_app2 (L.es.take q) (E.drop k) (j - k)
                rw [htl] at h6
                rw [h6, en0_drop, show k + (j - k) = j by omega]
            · rw [hlow P hb1 (by omega)]
              exact h2
          · rw [if_neg hmm] at hr
            injection hr with hr _
            cases hr
    · rw [mrgR_miss h1 h2] at h
      injection h with _ h
      injection h with h _
      cases h
  · rw [mrgR_bad h1] at h
    injection h with h _
    cases h
theorem mrgR_again {L M : Lo} {p u : Int} {es : List En} (h : mrgR L p u es = (0, false, M)) : mrgR M p u es = (0, false, M) := by
  obtain ⟨_, h2, h3, hb, ht, hall, hp⟩ := mrgR_done h
  have e1 : mP M p = mP L p := by unfold mP; rw [hb]
  have e2 : mU M p u = mU L p u := by unfold mU; rw [hb, ht]
  have e3 : mE M p es = mE L p es := by unfold mE; rw [hb]
  rw [mrgR_has ⟨h3, h2⟩ (by rw [e1, e2]; exact hp), e3, mgdR_all hall]
theorem mrgR_holds {L M : Lo} {p u : Int} {es : List En} (h : mrgR L p u es = (0, false, M)) (k : Nat) (hk : k < es.length) (hi : M.b < (en0 es k).1) : ∃ j : Nat, (en0 es k).1 - M.b - 1 = (j : Int) ∧ j < M.es.length ∧ (en0 M.es j).2.1 = (en0 es k).2.1 ∧ (en0 M.es j).1 = (en0 es k).1 := by
  obtain ⟨_, h2, h3, hb, ht, hall, hp⟩ := mrgR_done h
  refine there_at h3 ?_ hi
  have hx := (h2.2.2.2 k hk).1
  unfold mE at hall
  by_cases hpb : p < L.b
  · rw [if_pos hpb] at hall
    have := hall (k - min (L.b - p).toNat es.length) (by rw [List.length_drop]; omega)
    rw [en0_drop] at this
    rw [show min (L.b - p).toNat es.length + (k - min (L.b - p).toNat es.length) = k by omega] at this
    exact this
  · rw [if_neg hpb] at hall
    exact hall k hk
theorem mrgR_own {L : Lo} (hm : May L) : mrgR L L.b L.t L.es = (0, false, L) := by
  have h0 : ¬ L.b < L.b := by omega
  have e1 : mP L L.b = L.b := if_neg h0
  have e2 : mU L L.b L.t = L.t := if_neg h0
  have e3 : mE L L.b L.es = L.es := if_neg h0
  rw [mrgR_has ⟨hm, hm.1.1, by have := hm.1.2.1; omega, hm.1.2.2, hm.2.2⟩ (by rw [e1, e2]; exact termAt_base), e3, mgdR_all (fun j hj => there_own hm j hj)]
end Go.Proofs.YtnmcjjlpifemnaaDoor.Et
