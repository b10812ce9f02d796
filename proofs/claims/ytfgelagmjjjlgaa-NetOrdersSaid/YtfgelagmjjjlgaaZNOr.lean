/- Proved here: the walk of dovecotelaw14.NetOrders. Helper contract. -/
import Derived.Test.YtfgelagmjjjlgaaZNLw
namespace Go.Proofs.Ytfgelagmjjjlgaa.Nt
open Go.RowKit
set_option maxRecDepth 100000

/-- what is on its way behind k of the statement's puts -/
def ordI (k : Nat) : List It := (List.range (min k 4096)).map (fun j => ((qk 4 (j : Nat)).r, 1))
theorem ordI_len (k : Nat) : (ordI k).length = min k 4096 := by simp [ordI]
theorem ordI_put (k : Nat) : putI (ordI k) (qk 4 (k : Nat)).r 0 0 = ordI (k + 1) := by
  unfold putI
  rw [if_pos dr_zero]
  unfold addI
  rw [ordI_len]
  by_cases h : k < 4096
  · rw [if_pos (by omega)]
    unfold ordI
    rw [show min (k + 1) 4096 = k + 1 from by omega, show min k 4096 = k from by omega, List.range_succ, List.map_append]
    rfl
  · rw [if_neg (by omega)]
    unfold ordI
    rw [show min (k + 1) 4096 = min k 4096 from by omega]
theorem ordI_told (k : Nat) : Told ((ordI k).filter (fun x => decide (x.2 ≤ 1))) (ordI k) := by
  have e : (ordI k).filter (fun x => decide (x.2 ≤ 1)) = ordI k := by
    rw [List.filter_eq_self]
    intro x hx
    obtain ⟨j, _, rfl⟩ := List.mem_map.1 hx
    simp
  rw [e]
  refine told_id ?_
  unfold ordI
  rw [List.pairwise_map]
  rw [List.pairwise_iff_getElem]
  intros
  simp
theorem told_nil {a : List It} (h : Told [] a) : a = [] := told_one h ⟨[], rfl, List.Perm.refl _, List.Pairwise.nil⟩
set_option maxHeartbeats 8000000 in
theorem orders_walk (ao : Option Addr) (len cap : Nat) (w : World) : Calls Try.prog 5 #[.slice ao len cap] w fun e w' => e = .returned (.bool true) ∧ Below w.heap.size w w' := by
  have HN := hide (new_any w)
  have hge : decide ((len : Int) ≥ 0) = true := decide_eq_true (by omega)
  go_enter Try.func5, Try.ntmps5
  go_wp2_with fail
  refine (unhide HN).mono ?_
  rintro e w1 ⟨rfl, hs1, hb1⟩
  have HS1 := hide hs1
  have HB1 := hide hb1
  clear hs1 hb1 HN
  go_wp2
  go_loopw [4] (fun i wr => ∃ k : Nat, k ≤ 5000 ∧ i = .int .i64 k ∧ Hid (∃ v ps, NS wr w.heap.size w.heap.size v ps ∧ ps.map it = ordI k) ∧ Hid (Below w.heap.size w wr)) (fun i _ => 5000 - (intOf i).toNat)
  case atStart => exact ⟨0, by omega, rfl, ⟨_, [], unhide HS1, rfl⟩, HB1⟩
  case round =>
    clear HS1 HB1
    obtain ⟨k, hk, rfl, HNS, HBEL⟩ := hrel
    obtain ⟨v, ps, hns, hit⟩ := unhide HNS
    have HS := hide hns
    have HIT := hide hit
    clear HNS hns hit
    by_cases hlt : k < 5000
    · have HP := hide (put_any wr w.heap.size w.heap.size v ps (qk 4 (k : Nat)) 0 0 (unhide HS) (fun w' _ => qk_rok 4 k w') (qk_szs 4 k) (by decide) (by decide))
      go_upto_region 7 with fail
      iterate 7 go_step
      refine wpList_value rfl (rpc_buildkt _ _ _ _ _ _ _ 4 (k : Nat) rfl rfl _) ?_
      simp only [Act.put, List.setIfInBounds_toArray, List.set_cons_zero, List.set_cons_succ]
      go_wp2_with fail
      refine (unhide HP).mono ?_
      rintro e w2 ⟨rfl, v2, ps2, hs2, hf2, he2, hit2⟩
      have HNS2 : Hid (∃ v ps, NS w2 w.heap.size w.heap.size v ps ∧ ps.map it = ordI (k + 1)) := ⟨v2, ps2, hs2, by rw [hit2, unhide HIT]; exact ordI_put k⟩
      have HB2 : Hid (Below w.heap.size w w2) := Fr.bel (unhide HBEL) hf2 (fun i hi => ((unhide HS).lt i hi).1) (unhide HBEL).size
      clear hs2 hf2 he2 hit2 HP HS HIT
      go_wp2
      go_roundw
      case rel => exact ⟨k + 1, by omega, by go_num, HNS2, HB2⟩
      case measure => simp [intOf]; omega
    · have hk5 : k = 5000 := by omega
      subst hk5
      have hl : ps.length = 4096 := by
        have := congrArg List.length (unhide HIT)
        rw [List.length_map, ordI_len] at this
        simpa using this
      have HC := hide (count_any wr _ _ v ps (unhide HS))
      rw [hl] at HC
      have HT := hide (take_any wr w.heap.size w.heap.size v ps 1 (unhide HS) (by omega) (by decide) (by decide))
      clear hl hk hlt
      go_wp2_with fail
      refine (unhide HC).mono ?_
      rintro e w2 ⟨rfl, hw⟩
      obtain rfl := hw.symm
      clear hw HC
      go_wp2_with fail
      refine (unhide HT).mono ?_
      rintro e w3 ⟨vt, ts, v3, rs, rfl, ht⟩
      have HB3 : Hid (Below w.heap.size w w3) := Fr.bel (unhide HBEL) (unhide ht).fr (fun i hi => ((unhide HS).lt i hi).1) (unhide HBEL).size
      have hts : ts.map it = ordI 5000 := by
        have h1 := (unhide ht).told
        rw [unhide HIT] at h1
        exact told_one h1 (ordI_told 5000)
      have htl : ts.length = 4096 := by
        have := congrArg List.length hts
        rw [List.length_map, ordI_len] at this
        simpa using this
      have HS3 := hide (unhide ht).net
      have hrow := (unhide ht).row
      rw [htl] at hrow
      obtain ⟨g, ct, hvt⟩ : ∃ g ct, vt = .slice (some ⟨g, 0, none⟩) 4096 ct := by
        rcases hrow.2 with ⟨_, h2⟩ | ⟨g, ct, cur, e, _⟩
        · omega
        · exact ⟨g, ct, e⟩
      subst hvt
      have HCE : Hid (∀ j : Nat, j < 4096 → w3.cell? ⟨g, j * 11 + 3, none⟩ = some (.int .i64 j)) := fun j hj => by
        have hjt : j < ts.length := by omega
        have hq : (ts.map (·.q))[j]? = some ts[j].q := by rw [List.getElem?_map, List.getElem?_eq_getElem hjt]; rfl
        rw [hrow.cellAt (j * 11 + 3) (by omega), mrow_get _ j _ hq 3 (by omega)]
        have e := congrArg (fun l => l[j]?) hts
        simp only [List.getElem?_map] at e
        rw [List.getElem?_eq_getElem hjt] at e
        unfold ordI at e
        rw [List.getElem?_map, List.getElem?_range (by omega)] at e
        simp only [Option.map_some, Option.some.injEq] at e
        have e2 : ts[j].q.r = (qk 4 (j : Nat)).r := congrArg Prod.fst e
        show some (Value.int .i64 ts[j].q.r.term) = _
        rw [e2]
        rfl
      clear ht HT hts htl hrow HS HBEL HIT
      go_wp2
      go_loopw [6] (fun i wr => ∃ k : Nat, k ≤ 4096 ∧ i = .int .i64 k ∧ wr = w3) (fun i _ => 4096 - (intOf i).toNat)
      case atStart => exact ⟨0, by omega, rfl, rfl⟩
      case round =>
        obtain ⟨k, hk, rfl, rfl⟩ := hrel
        by_cases hlt : k < 4096
        · have c3 := (unhide HCE) k hlt
          go_wp2
          go_roundw
          case rel => exact ⟨k + 1, by omega, by go_num, by first | rfl | trivial⟩
          case measure => simp [intOf]; omega
        · clear HCE
          have HP := hide (put_any wr w.heap.size w.heap.size v3 rs (qk 4 0) 1 0 (unhide HS3) (fun w' _ => qk_rok 4 0 w') (qk_szs 4 0) (by decide) (by decide))
          go_upto_region 16 with fail
          iterate 4 go_step
          refine wpList_value rfl (rpc_buildk _ _ _ _ _ _ 4 rfl _) ?_
          simp only [Act.put, List.setIfInBounds_toArray, List.set_cons_zero, List.set_cons_succ]
          go_wp2_with fail
          refine (unhide HP).mono ?_
          rintro e w4 ⟨rfl, v4, ps4, hs4, hf4, _, _⟩
          have HB4 : Hid (Below w.heap.size w w4) := Fr.bel (unhide HB3) hf4 (fun i hi => ((unhide HS3).lt i hi).1) (unhide HB3).size
          have HCL := hide (clear_any w4 _ _ v4 ps4 hs4)
          clear hs4 hf4 HP HS3 HB3
          go_wp2_with fail
          refine (unhide HCL).mono ?_
          rintro e w5 ⟨rfl, hs5, hf5⟩
          have HB5 : Hid (Below w.heap.size w w5) := Fr.bel (unhide HB4) hf5 (fun i hi => by omega) (unhide HB4).size
          have HS5 := hide hs5
          have HC := hide (count_any w5 _ _ _ [] (unhide HS5))
          have HT := hide (take_any w5 w.heap.size w.heap.size _ [] 100 (unhide HS5) (by simp) (by decide) (by decide))
          clear hs5 hf5 HCL HB4
          go_wp2_with fail
          refine (unhide HC).mono ?_
          rintro e w6 ⟨rfl, hw⟩
          obtain rfl := hw.symm
          clear hw HC
          go_wp2_with fail
          refine (unhide HT).mono ?_
          rintro e w7 ⟨vt7, ts7, v7, rs7, rfl, ht⟩
          have HB7 : Hid (Below w.heap.size w w7) := Fr.bel (unhide HB5) (unhide ht).fr (fun i hi => ((unhide HS5).lt i hi).1) (unhide HB5).size
          have h7 : ts7 = [] := by
            have := told_nil (by simpa using (unhide ht).told)
            simpa using this
          subst h7
          obtain ⟨a7, c7, rfl⟩ := owns_slice (unhide ht).row
          have HWK := hide (wakes_any w7)
          clear ht HT HS5 HB5
          go_wp2_with fail
          refine (unhide HWK).mono ?_
          rintro e w8 ⟨rfl, hb8⟩
          have HB8 : Hid (Below w.heap.size w w8) := bnx (unhide HB7) hb8
          clear hb8 HWK HB7
          go_wp2
          go_ret
          exact ⟨rfl, unhide HB8⟩
end Go.Proofs.Ytfgelagmjjjlgaa.Nt
