/- Proved here: the contract of the page's Take: the walk. Helper contract. -/
import Derived.Test.YtfgelagmjjjlgaaZNPt
namespace Go.Proofs.Ytfgelagmjjjlgaa.Nt
open Go.RowKit
set_option maxRecDepth 100000

theorem int_slice (a : Act) (dst : Option Tmp) (x : Operand) (ty : TypeId) (pos : String) (after : Array Edge) (z : Int) (hx : a.eval x = .int .i64 z) (w : World) :
    (execOp a.eval ⟨dst, .buildSlice 28 1 #[(0, x)], ty, pos, after, none⟩).run Try.prog w = .ok (.value (.slice (some ⟨w.heap.size, 0, none⟩) 1 1)) (w.alloc (.cells [.int .i64 z].toArray 3)) := by
  unfold execOp
  simp only [List.map_toArray, List.map_cons, List.map_nil, hx]
  kernel_rfl
theorem rpcs_none (ρ : Operand → Value) (dst : Option Tmp) (ty : TypeId) (pos : String) (after : Array Edge) (w : World) :
    (execOp ρ ⟨dst, .buildSlice 27 0 #[], ty, pos, after, none⟩).run Try.prog w = .ok (.value (.slice (some ⟨w.heap.size, 0, none⟩) 0 0)) (w.alloc (.cells #[] 33)) := by
  kernel_rfl
theorem ints_none (ρ : Operand → Value) (dst : Option Tmp) (ty : TypeId) (pos : String) (after : Array Edge) (w : World) :
    (execOp ρ ⟨dst, .buildSlice 28 0 #[], ty, pos, after, none⟩).run Try.prog w = .ok (.value (.slice (some ⟨w.heap.size, 0, none⟩) 0 0)) (w.alloc (.cells #[] 3)) := by
  kernel_rfl
theorem owns_cap {w : World} {B : Nat} {e : TypeId} {s n cap : Nat} {ao : Option Addr} {xs : List Value} (h : w.ownsRow B e s (.slice ao n cap) n xs) : n ≤ cap := by
  rcases h.2 with ⟨e, h0⟩ | ⟨g, c, cur, e, _, _, hnc, _⟩
  · omega
  · simp only [Value.slice.injEq] at e
    omega
theorem owns_new0 (w : World) (e : TypeId) (s : Nat) : (w.alloc (.cells #[] e)).ownsRow w.heap.size e s (.slice (some ⟨w.heap.size, 0, none⟩) 0 0) 0 [] :=
  ⟨(Nat.zero_mul s).symm, .inr ⟨w.heap.size, 0, #[], rfl, Nat.le_refl _, Array.getElem?_push_size, Nat.le_refl _, Nat.zero_le _, (Nat.zero_mul s).symm, List.take_nil⟩⟩
theorem mrow_cut (l : List Mq) (j : Nat) (hj : j ≤ l.length) : (mrow l).take (j * 11) = mrow (l.take j) ∧ (mrow l).drop (j * 11) = mrow (l.drop j) := by
  have e : mrow l = mrow (l.take j) ++ mrow (l.drop j) := by rw [← mrow_app, List.take_append_drop]
  have n : (mrow (l.take j)).length = j * 11 := by rw [mrow_len, List.length_take, Nat.min_eq_left hj]
  rw [e]
  exact ⟨List.take_left' n, List.drop_left' n⟩
theorem ins_rowL (T : List Tp) (x : Mq × Int) (n j : Nat) (hj : j ≤ T.length) : mrow ((T.take j ++ [(x, n)] ++ T.drop j).map (·.1.1)) = [] ++ (mrow (T.map (·.1.1))).take (j * 11) ++ mcs x.1 ++ (mrow (T.map (·.1.1))).drop (j * 11) := by
  obtain ⟨e1, e2⟩ := mrow_cut (T.map (·.1.1)) j (by rw [List.length_map]; exact hj)
  rw [e1, e2, List.map_append, List.map_append, mrow_app, mrow_app, List.map_take, List.map_drop]
  simp [mrow]
theorem ins_rowT (T : List Tp) (x : Mq × Int) (n j : Nat) : ((T.take j ++ [(x, n)] ++ T.drop j).map (·.1.2)).map (Value.int .i64) = [] ++ ((T.map (·.1.2)).map (Value.int .i64)).take (j * 1) ++ [.int .i64 x.2] ++ ((T.map (·.1.2)).map (Value.int .i64)).drop (j * 1) := by
  simp [List.map_take, List.map_drop]
theorem ins_len (T : List Tp) (x : Mq × Int) (n j : Nat) (hj : j ≤ T.length) : (T.take j ++ [(x, n)] ++ T.drop j).length = 0 + j + 1 + (T.length - j) := by
  simp
  omega
theorem ints_one (l : List Int) : ∀ u ∈ l.map (Value.int .i64), u.oneCell' = true := fun u hu => by
  obtain ⟨z, _, rfl⟩ := List.mem_map.1 hu
  rfl
theorem take_one' {xs : List Value} (h : ∀ u ∈ xs, u.oneCell' = true) (n : Nat) : ∀ u ∈ xs.take n, u.oneCell' = true := fun u hu => h u (List.mem_of_mem_take hu)
theorem drop_one' {xs : List Value} (h : ∀ u ∈ xs, u.oneCell' = true) (n : Nat) : ∀ u ∈ xs.drop n, u.oneCell' = true := fun u hu => h u (List.mem_of_mem_drop hu)
set_option maxHeartbeats 8000000 in
theorem ptake_any (w : World) (B r : Nat) (vL vA : Value) (qs : List Mq) (ats : List Int) (now : Int) (h : PSx w B r vL vA qs ats) (hln : qs.length = ats.length) (hl : qs.length ≤ 1000000) :
    Calls Try.prog 11 #[.pointer (some ⟨r, 0, none⟩), .int .i64 now] w fun e w' => ∃ vo T vL' vA' R, e = .returned vo ∧ Hid (PTaken w B r vL vA qs ats now w' vo T vL' vA' R) := by
  obtain ⟨i0, hi, hz0, hz1, hz2⟩ := info_parts infoR
  obtain ⟨j0, ji, jz0, jz1, jz2⟩ := info_parts infoN
  have HS := hide h
  obtain ⟨aL, cL, hv⟩ := owns_slice h.rl
  obtain ⟨aA, cA, hva⟩ := owns_slice h.ra
  obtain ⟨L, hL⟩ : ∃ L, L = qs.length := ⟨_, rfl⟩
  have HLQ : Hid (qs.length = L) := hL.symm
  have HLA : Hid (ats.length = L) := hln.symm.trans hL.symm
  have HVL : Hid (vL = .slice aL L cL) := by show _ = _; rw [hv, hL]
  have HVA : Hid (vA = .slice aA L cA) := by show _ = _; rw [hva, unhide HLA]
  have hlm : L ≤ 1000000 := by rw [hL]; exact hl
  clear h hln hL hv hva hl
  have d0 : w.cell? ⟨r, 0, none⟩ = some (.slice aL L cL) := by rw [← unhide HVL]; exact (unhide HS).box.cell 0 _ rfl
  go_enter Try.func11, Try.ntmps11
  go_wp2
  clear d0
  go_loopw [5, 6, 7, 8, 9] (fun vo vl vt va i wr => ∃ (k : Nat) (T : List Tp), k ≤ L ∧ i = .int .i64 k ∧ Hid (Four w wr vo vl vt va T (((qs.zip ats).take k).filter (fun x => !decide (x.2 ≤ now)))) ∧ Hid (T.Perm (((qs.zip ats).take k).filter (fun x => decide (x.2 ≤ now))).zipIdx ∧ T.Pairwise tlt)) (fun _ _ _ _ i _ => L - (intOf i).toNat)
  case atStart => exact ⟨0, [], Nat.zero_le _, rfl, ⟨World.ownsRow_nil _ _ _ _, World.ownsRow_nil _ _ _ _, World.ownsRow_nil _ _ _ _, World.ownsRow_nil _ _ _ _, fun g hg => by simp [bl, Value.ownBlock] at hg, fun g hg => by simp [bl, Value.ownBlock] at hg, Below.refl _ _⟩, List.Perm.refl _, List.Pairwise.nil⟩
  case round =>
    obtain ⟨k, T, hk, rfl, HF, HT⟩ := hrel
    have HSr := hide ((unhide HS).below (unhide HF).bel)
    have d0 : wr.cell? ⟨r, 0, none⟩ = some (.slice aL L cL) := by rw [← unhide HVL]; exact (unhide HSr).box.cell 0 _ rfl
    have d1 : wr.cell? ⟨r, 1, none⟩ = some (.slice aA L cA) := by rw [← unhide HVA]; exact (unhide HSr).box.cell 1 _ rfl
    by_cases hlt : k < L
    · have HKQ : Hid (k < qs.length) := by show _ < _; rw [unhide HLQ]; exact hlt
      have HKA : Hid (k < ats.length) := by show _ < _; rw [unhide HLA]; exact hlt
      obtain ⟨gL, hgL⟩ : ∃ g, aL = some ⟨g, 0, none⟩ := by
        rcases (unhide HS).rl.2 with ⟨_, e⟩ | ⟨g, _, _, e, _⟩
        · have := unhide HKQ; omega
        · rw [unhide HVL] at e; simp only [Value.slice.injEq] at e; exact ⟨g, e.1⟩
      obtain ⟨gA, hgA⟩ : ∃ g, aA = some ⟨g, 0, none⟩ := by
        rcases (unhide HS).ra.2 with ⟨_, e⟩ | ⟨g, _, _, e, _⟩
        · have := unhide HKA; omega
        · rw [unhide HVA] at e; simp only [Value.slice.injEq] at e; exact ⟨g, e.1⟩
      subst hgL hgA
      have HQK : Hid (qs[k]? = some (qs.getD k default)) := by show _ = _; rw [List.getD_eq_getElem?_getD, List.getElem?_eq_getElem (unhide HKQ)]; rfl
      have HAK : Hid (ats[k]? = some (ats.getD k 0)) := by show _ = _; rw [List.getD_eq_getElem?_getD, List.getElem?_eq_getElem (unhide HKA)]; rfl
      have HRG : Hid (wr.rangeAt gL (k * 11) (mcs (qs.getD k default))) := fun j u hu => by
        have hj : j < 11 := (List.getElem?_eq_some_iff.1 hu).1
        have := (unhide HSr).rl
        rw [unhide HLQ, unhide HVL] at this
        rw [this.cellAt (k * 11 + j) (by omega), mrow_get qs k _ (unhide HQK) j hj]
        exact hu
      have e1 : wr.cell? ⟨gA, k, none⟩ = some (.int .i64 (ats.getD k 0)) := by
        have := (unhide HSr).ra
        rw [unhide HLA, unhide HVA] at this
        rw [this.cellAt k (by omega), List.getElem?_map, unhide HAK]
        rfl
      have HZT : Hid ((qs.zip ats).take (k + 1) = (qs.zip ats).take k ++ [(qs.getD k default, ats.getD k 0)]) := by
        show _ = _
        have hz : k < (qs.zip ats).length := by rw [List.length_zip]; have := unhide HKQ; have := unhide HKA; omega
        rw [List.take_succ_eq_append_getElem hz, List.getElem_zip, List.getD_eq_getElem?_getD, List.getD_eq_getElem?_getD, List.getElem?_eq_getElem (unhide HKQ), List.getElem?_eq_getElem (unhide HKA)]
        rfl
      generalize qs.getD k default = q at HQK HRG HZT
      generalize ats.getD k 0 = z at HAK e1 HZT
      clear HQK HKQ HKA
      by_cases hzn : now < z
      · have hzd : decide (z > now) = true := decide_eq_true hzn
        have HLR : Hid ((((qs.zip ats).take k).filter (fun x => !decide (x.2 ≤ now))).length ≤ k) := Nat.le_trans (List.length_filter_le _ _) (List.length_take_le _ _)
        have HFS : Hid (((qs.zip ats).take (k + 1)).filter (fun x => !decide (x.2 ≤ now)) = ((qs.zip ats).take k).filter (fun x => !decide (x.2 ≤ now)) ++ [(q, z)]) := by
          show _ = _
          rw [unhide HZT, List.filter_append]
          congr 1
          simp
          omega
        have HFC : Hid (((qs.zip ats).take (k + 1)).filter (fun x => decide (x.2 ≤ now)) = ((qs.zip ats).take k).filter (fun x => decide (x.2 ≤ now))) := by
          show _ = _
          rw [unhide HZT, List.filter_append, List.filter_cons_of_neg, List.filter_nil, List.append_nil]
          simp
          omega
        generalize ((qs.zip ats).take k).filter (fun x => !decide (x.2 ≤ now)) = R at HF HLR HFS
        have hlr := unhide HLR
        go_upto_region 7 with fail
        iterate 22 go_step
        refine wpList_load_mid rfl 33 _ rfl gL (k * 11) rfl (mcs q) _ (unhide HRG) Try.underlying33 rfl rpc_size ?_
        simp only [Act.put, List.setIfInBounds_toArray, List.set_cons_zero, List.set_cons_succ]
        refine wpList_value rfl (rpc_slice _ _ _ _ _ _ q rfl _) ?_
        simp only [Act.put, List.setIfInBounds_toArray, List.set_cons_zero, List.set_cons_succ]
        have hal : Below wr.heap.size wr (wr.alloc (.cells (mcs q).toArray 33)) := (Below.refl _ _).alloc (Nat.le_refl _) _
        have HX3 : Hid (Bx (wr.alloc (.cells (mcs q).toArray 33)) wr.heap.size (mcs q) 33) := Bx.new wr (mcs q) 33 _ rfl
        have HF3 := hide ((unhide HF).below hal)
        have hsz3 : wr.heap.size + 1 ≤ (wr.alloc (.cells (mcs q).toArray 33)).heap.size := by simp
        have hb3 := (unhide HF3).bel.size
        clear HF HSr hal HRG d0 d1 e1
        generalize wr.alloc (.cells (mcs q).toArray 33) = w3 at HX3 HF3 hsz3 hb3 ⊢
        refine wpList_append_own_at _ rfl _ _ 27 rfl w.heap.size 33 i0 _ 11 128 Try.underlying27 hi hz0 hz1 hz2 rfl (by decide) _ _ _ rfl (unhide HF3).l ⟨wr.heap.size, 0, none⟩ 1 1 (mcs q) rfl rfl (mcs_cells (unhide HX3)) (mcs_one _) (by unfold maxLen; omega) (by omega) (by omega) ?_
        intro v' w4 hown hgrow _ hat
        have HO1 := hide hown
        have f1 : Fr (fun k => k ∈ bl u6) w3 w4 := Fr.of_grown hgrow (fun g e => mem_bl.2 e)
        have HF1 := hide f1
        have HV1 : Hid (∀ g ∈ bl v', g ∈ bl u6 ∨ w3.heap.size ≤ g) := fun g hg => by
          rw [mem_bl] at hg
          rcases hat with e | e
          · rw [e] at hg; exact .inl (mem_bl.2 hg)
          · rw [e] at hg; exact .inr (Nat.le_of_eq (Option.some.inj hg))
        have hb4 : Below w.heap.size w w4 := (unhide HF3).bel.grown hgrow hb3 (fun k hk => (owns_blk (unhide HF3).l k hk).1)
        have HA4 := hide (owns_fr (unhide HF3).a f1 (fun g hg e => ((unhide HF3).dl g e).2.2 (mem_bl.2 hg)))
        have HS4 := hide ((unhide HS).below hb4)
        have d1 : w4.cell? ⟨r, 1, none⟩ = some (.slice (some ⟨gA, 0, none⟩) L cA) := by rw [← unhide HVA]; exact (unhide HS4).box.cell 1 _ rfl
        have e1 : w4.cell? ⟨gA, k, none⟩ = some (.int .i64 z) := by
          have h9 := (unhide HS4).ra
          rw [unhide HLA, unhide HVA] at h9
          rw [h9.cellAt k (by omega), List.getElem?_map, unhide HAK]
          rfl
        have hb4s := hb4.size
        clear hown hgrow hat f1 hb4 HX3 HS4
        simp only [Act.put, List.setIfInBounds_toArray, List.set_cons_zero, List.set_cons_succ]
        go_wp2_with (first
          | (at_builtin; refine wpList_append_own_at _ rfl _ _ 28 rfl w.heap.size 3 j0 _ 1 8 Try.underlying28 ji jz0 jz1 jz2 rfl (by decide) _ _ _ rfl ((unhide HA4).alloc _) ⟨w4.heap.size, 0, none⟩ 1 1 [.int .i64 z] rfl rfl (one_cell _ _ _) (one_one _ _) (by unfold maxLen; omega) (by omega) (by simp; omega) ?_)
          | go_in)
        intro v6 w6 hown hgrow _ hat
        have HF6 : Hid (Four w w6 u5 v' u7 v6 T (((qs.zip ats).take (k + 1)).filter (fun x => !decide (x.2 ≤ now)))) := by
          rw [unhide HFS]
          refine (unhide HF3).rest (unhide HF1) (unhide HO1) (unhide HV1) ((Fr.alloc _ _ _).trans (Fr.of_grown hgrow (fun g e => mem_bl.2 e))) (by rw [List.map_map]; exact hown) (fun g hg => ?_)
          rw [mem_bl] at hg
          rcases hat with e | e
          · rw [e] at hg; exact .inl (mem_bl.2 hg)
          · rw [e] at hg
            have h9 := Option.some.inj hg
            first | exact .inr (by omega) | (simp at h9; exact .inr (by omega))
        have HT6 : Hid (T.Perm (((qs.zip ats).take (k + 1)).filter (fun x => decide (x.2 ≤ now))).zipIdx ∧ T.Pairwise tlt) := by
          show _ ∧ _
          rw [unhide HFC]
          exact unhide HT
        clear hown hgrow hat HF1 HO1 HV1 HF3 HA4 HFS HFC HT d1 e1 HAK
        go_wp2
        go_roundw
        case rel => exact ⟨k + 1, T, by omega, by go_num, HF6, HT6⟩
        case measure => simp [intOf]; omega
      · have hzd : decide (z > now) = false := decide_eq_false (by omega)
        have hzz : ¬ z > now := by omega
        have HFS : Hid (((qs.zip ats).take (k + 1)).filter (fun x => decide (x.2 ≤ now)) = ((qs.zip ats).take k).filter (fun x => decide (x.2 ≤ now)) ++ [(q, z)]) := by
          show _ = _
          rw [unhide HZT, List.filter_append]
          congr 1
          simp
          omega
        have HFC : Hid (((qs.zip ats).take (k + 1)).filter (fun x => !decide (x.2 ≤ now)) = ((qs.zip ats).take k).filter (fun x => !decide (x.2 ≤ now))) := by
          show _ = _
          rw [unhide HZT, List.filter_append, List.filter_cons_of_neg, List.filter_nil, List.append_nil]
          simp
          omega
        obtain ⟨C, hC⟩ : ∃ C, C = ((qs.zip ats).take k).filter (fun x => decide (x.2 ≤ now)) := ⟨_, rfl⟩
        have hcl : C.length ≤ k := by rw [hC]; exact Nat.le_trans (List.length_filter_le _ _) (List.length_take_le _ _)
        rw [← hC] at HT HFS
        have htl : T.length = C.length := by rw [(unhide HT).1.length_eq, List.length_zipIdx]
        obtain ⟨N, hN⟩ : ∃ N, N = T.length := ⟨_, rfl⟩
        have hnl : N ≤ 1000000 := by omega
        obtain ⟨a5, c5, h5⟩ := owns_slice (unhide HF).o
        obtain ⟨a7, c7, h7⟩ := owns_slice (unhide HF).t
        rw [← hN] at h5 h7
        subst h5 h7
        have HN := hide hN
        clear hC hcl htl hN HZT
        go_wp2_with fail
        go_loopw [10] (fun vj w2 => ∃ (jn n : Nat), jn ≤ N ∧ vj = .int .i64 jn ∧ w2 = wr.drewN n ∧ Hid (∀ m, jn ≤ m → m < T.length → z < (T.getD m default).1.2)) (fun vj _ => (intOf vj).toNat)
        case atStart => exact ⟨N, 0, Nat.le_refl _, rfl, rfl, fun m h1 h2 => by have := unhide HN; omega⟩
        case round =>
          obtain ⟨jn, n, hj, rfl, rfl, HHI⟩ := hrel
          by_cases hj0 : jn = 0
          · subst hj0
            go_wp2_with fail
            go_quiet (fail)
            have HLO : Hid (0 = 0 ∨ (T.getD (0 - 1) default).1.2 ≤ z) := .inl rfl
            have hD : Below wr.heap.size wr ((wr.drewN n).drewN nq) := below_drewN (below_drewN (Below.refl _ _) n) nq
            have HFd := hide ((unhide HF).below hD)
            have HCL : Hid (∀ W : World, Below ((wr.drewN n).drewN nq).heap.size ((wr.drewN n).drewN nq) W → W.cell? ⟨r, 0, none⟩ = some (.slice (some ⟨gL, 0, none⟩) L cL) ∧ W.cell? ⟨r, 1, none⟩ = some (.slice (some ⟨gA, 0, none⟩) L cA) ∧ W.cell? ⟨gA, k, none⟩ = some (.int .i64 z) ∧ W.rangeAt gL (k * 11) (mcs q)) := fun W hW => by
              have d0' : ((wr.drewN n).drewN nq).cell? ⟨r, 0, none⟩ = some (.slice (some ⟨gL, 0, none⟩) L cL) := d0
              have d1' : ((wr.drewN n).drewN nq).cell? ⟨r, 1, none⟩ = some (.slice (some ⟨gA, 0, none⟩) L cA) := d1
              have e1' : ((wr.drewN n).drewN nq).cell? ⟨gA, k, none⟩ = some (.int .i64 z) := e1
              exact ⟨(hW.cell (cell_lt d0')).trans d0', (hW.cell (cell_lt d1')).trans d1', (hW.cell (cell_lt e1')).trans e1', range_below (w := (wr.drewN n).drewN nq) (unhide HRG) hW⟩
            have hwd : w.heap.size ≤ ((wr.drewN n).drewN nq).heap.size := (unhide HFd).bel.size
            have hjt : 0 ≤ T.length := by have := unhide HN; omega
            have HT2 : Hid ((T.take 0 ++ [((q, z), C.length)] ++ T.drop 0).Perm ((C ++ [(q, z)]).zipIdx) ∧ (T.take 0 ++ [((q, z), C.length)] ++ T.drop 0).Pairwise tlt) := ⟨ins_perm (unhide HT).1, ins_sorted (unhide HT).2 (tag_lt (unhide HT).1) hjt (unhide HLO) (unhide HHI)⟩
            have HRL : Hid (_ = _) := ins_rowL T (q, z) C.length 0 hjt
            have HRT : Hid (_ = _) := ins_rowT T (q, z) C.length 0
            have HLE : Hid (_ = _) := ins_len T (q, z) C.length 0 hjt
            have hc5 : N ≤ c5 := owns_cap (by have := (unhide HFd).o; rw [← unhide HN] at this; exact this)
            have hc7 : N ≤ c7 := owns_cap (by have := (unhide HFd).t; rw [← unhide HN] at this; exact this)
            clear hD HF d0 d1 e1 HRG HT HLO HHI HAK hjt
            go_upto_region 12 with fail
            generalize (wr.drewN n).drewN nq = wd at HFd HCL hwd ⊢
            iterate 1 go_step
            refine wpList_value rfl (rpcs_none _ _ _ _ _ _) ?_
            simp only [Act.put, List.setIfInBounds_toArray, List.set_cons_zero, List.set_cons_succ]
            iterate 6 go_step
            refine wpList_value rfl (rpcs_lo _ _ _ _ _ _ _ a5 N c5 0 rfl rfl (by omega) _) ?_
            simp only [Act.put, List.setIfInBounds_toArray, List.set_cons_zero, List.set_cons_succ]
            have hal : Below wd.heap.size wd (wd.alloc (.cells #[] 33)) := (Below.refl _ _).alloc (Nat.le_refl _) _
            have HO := hide (owns_new0 wd 33 11)
            have hb1 : wd.heap.size ≤ (wd.alloc (.cells #[] 33)).heap.size := by simp
            have HFe := hide ((unhide HFd).below hal)
            have HB1 := hide hal
            clear hal
            generalize wd.alloc (.cells #[] 33) = w1 at HO HFe HB1 hb1 ⊢
            refine wpList_app_c w1 rfl _ _ 27 rfl wd.heap.size 33 i0 _ 11 128 Try.underlying27 hi hz0 hz1 hz2 rfl (by decide) _ _ 0 0 [] _ rfl rfl (unhide HO) (CIn.lo (by have := (unhide HFe).o; rw [← unhide HN] at this; exact this) 0 (by omega)) (take_one' (mrow_one _) _) (by unfold maxLen; omega) (by omega) hb1 ?_
            intro v2 w2 hown hgrow _
            have HB2 : Hid (Below wd.heap.size wd w2) := (unhide HB1).grown hgrow hb1 (fun k hk => (owns_blk (unhide HO) k hk).1)
            have HO2 := hide hown
            have hb2 := (unhide HB2).size
            clear hown hgrow HO HFe HB1 hb1
            simp only [Act.put, List.setIfInBounds_toArray, List.set_cons_zero, List.set_cons_succ]
            obtain ⟨d0, d1, e1, hrg⟩ := (unhide HCL) w2 (unhide HB2)
            have HRG := hide hrg
            clear hrg
            go_upto_region 13 with fail
            iterate 22 go_step
            refine wpList_load_mid rfl 33 _ rfl gL (k * 11) rfl (mcs q) _ (unhide HRG) Try.underlying33 rfl rpc_size ?_
            simp only [Act.put, List.setIfInBounds_toArray, List.set_cons_zero, List.set_cons_succ]
            refine wpList_value rfl (rpc_slice _ _ _ _ _ _ q rfl _) ?_
            simp only [Act.put, List.setIfInBounds_toArray, List.set_cons_zero, List.set_cons_succ]
            have hal : Below w2.heap.size w2 (w2.alloc (.cells (mcs q).toArray 33)) := (Below.refl _ _).alloc (Nat.le_refl _) _
            have HX3 : Hid (Bx (w2.alloc (.cells (mcs q).toArray 33)) w2.heap.size (mcs q) 33) := Bx.new w2 (mcs q) 33 _ rfl
            have HO3 := hide (owns_below (unhide HO2) hal)
            have HB3 : Hid (Below wd.heap.size wd (w2.alloc (.cells (mcs q).toArray 33))) := bnx (unhide HB2) hal
            have hb3 := (unhide HB3).size
            clear HO2 HB2 hal HRG d0 d1 e1
            generalize w2.alloc (.cells (mcs q).toArray 33) = w3 at HX3 HO3 HB3 hb3 ⊢
            refine wpList_app_c w3 rfl _ _ 27 rfl wd.heap.size 33 i0 _ 11 128 Try.underlying27 hi hz0 hz1 hz2 rfl (by decide) _ _ (0 + 0) 1 _ _ rfl rfl (unhide HO3) (CIn.lit (unhide HX3) (mcs_len q)) (mcs_one q) (by unfold maxLen; omega) (by omega) hb3 ?_
            intro v4 w4 hown hgrow _
            have HB4 : Hid (Below wd.heap.size wd w4) := (unhide HB3).grown hgrow hb3 (fun k hk => (owns_blk (unhide HO3) k hk).1)
            have HO4 := hide hown
            have hb4 := (unhide HB4).size
            clear hown hgrow HO3 HX3 HB3 hb3 hb2
            simp only [Act.put, List.setIfInBounds_toArray, List.set_cons_zero, List.set_cons_succ]
            have HFf := hide ((unhide HFd).below (unhide HB4))
            go_upto_region 14 with fail
            iterate 10 go_step
            refine wpList_value rfl (rpcs_hi _ _ _ _ _ _ _ a5 N c5 0 rfl rfl (by omega) _) ?_
            simp only [Act.put, List.setIfInBounds_toArray, List.set_cons_zero, List.set_cons_succ]
            refine wpList_app_c w4 rfl _ _ 27 rfl wd.heap.size 33 i0 _ 11 128 Try.underlying27 hi hz0 hz1 hz2 rfl (by decide) _ _ (0 + 0 + 1) (N - 0) _ _ rfl rfl (unhide HO4) (CIn.hi (by have := (unhide HFf).o; rw [← unhide HN] at this; exact this) 0 (by omega)) (drop_one' (mrow_one _) _) (by unfold maxLen; omega) (by omega) hb4 ?_
            intro v5 w5 hown hgrow _
            have HB5 : Hid (Below wd.heap.size wd w5) := (unhide HB4).grown hgrow hb4 (fun k hk => (owns_blk (unhide HO4) k hk).1)
            have HO5 := hide hown
            have hb5 := (unhide HB5).size
            clear hown hgrow HO4 HB4 hb4 HFf
            simp only [Act.put, List.setIfInBounds_toArray, List.set_cons_zero, List.set_cons_succ]
            go_upto_region 15 with fail
            iterate 1 go_step
            refine wpList_value rfl (ints_none _ _ _ _ _ _) ?_
            simp only [Act.put, List.setIfInBounds_toArray, List.set_cons_zero, List.set_cons_succ]
            iterate 6 go_step
            refine wpList_value rfl (ints_lo _ _ _ _ _ _ _ a7 N c7 0 rfl rfl (by omega) _) ?_
            simp only [Act.put, List.setIfInBounds_toArray, List.set_cons_zero, List.set_cons_succ]
            have hal : Below w5.heap.size w5 (w5.alloc (.cells #[] 3)) := (Below.refl _ _).alloc (Nat.le_refl _) _
            have HP := hide (owns_new0 w5 3 1)
            have hb6 : w5.heap.size ≤ (w5.alloc (.cells #[] 3)).heap.size := by simp
            have HC6 := hide hal
            have HFe : Hid (Four w _ _ _ _ _ _ _) := (unhide HFd).below (bnx (unhide HB5) hal)
            clear hal
            generalize w5.alloc (.cells #[] 3) = w6 at HP HFe HC6 hb6 ⊢
            refine wpList_app_c w6 rfl _ _ 28 rfl w5.heap.size 3 j0 _ 1 8 Try.underlying28 ji jz0 jz1 jz2 rfl (by decide) _ _ 0 0 [] _ rfl rfl (unhide HP) (CIn.lo (by have := (unhide HFe).t; rw [← unhide HN] at this; exact this) 0 (by omega)) (take_one' (ints_one _) _) (by unfold maxLen; omega) (by omega) hb6 ?_
            intro v7 w7 hown hgrow _
            have HC7 : Hid (Below w5.heap.size w5 w7) := (unhide HC6).grown hgrow hb6 (fun k hk => (owns_blk (unhide HP) k hk).1)
            have HP7 := hide hown
            have hb7 := (unhide HC7).size
            clear hown hgrow HP HC6 hb6 HFe
            simp only [Act.put, List.setIfInBounds_toArray, List.set_cons_zero, List.set_cons_succ]
            obtain ⟨d0, d1, e1, hrg⟩ := (unhide HCL) w7 (bnx (unhide HB5) (unhide HC7))
            clear hrg d0
            go_upto_region 16 with fail
            iterate 25 go_step
            refine wpList_value rfl (int_slice _ _ _ _ _ _ z rfl _) ?_
            simp only [Act.put, List.setIfInBounds_toArray, List.set_cons_zero, List.set_cons_succ]
            have hal : Below w7.heap.size w7 (w7.alloc (.cells [.int .i64 z].toArray 3)) := (Below.refl _ _).alloc (Nat.le_refl _) _
            have HX8 : Hid (Bx (w7.alloc (.cells [.int .i64 z].toArray 3)) w7.heap.size [.int .i64 z] 3) := Bx.new w7 [.int .i64 z] 3 _ rfl
            have HP8 := hide (owns_below (unhide HP7) hal)
            have HC8 : Hid (Below w5.heap.size w5 (w7.alloc (.cells [.int .i64 z].toArray 3))) := bnx (unhide HC7) hal
            have hb8 := (unhide HC8).size
            clear HP7 HC7 hal d1 e1 hb7
            generalize w7.alloc (.cells [.int .i64 z].toArray 3) = w8 at HX8 HP8 HC8 hb8 ⊢
            refine wpList_app_c w8 rfl _ _ 28 rfl w5.heap.size 3 j0 _ 1 8 Try.underlying28 ji jz0 jz1 jz2 rfl (by decide) _ _ (0 + 0) 1 _ _ rfl rfl (unhide HP8) (CIn.lit (unhide HX8) rfl) (one_one _ _) (by unfold maxLen; omega) (by omega) hb8 ?_
            intro v9 w9 hown hgrow _
            have HC9 : Hid (Below w5.heap.size w5 w9) := (unhide HC8).grown hgrow hb8 (fun k hk => (owns_blk (unhide HP8) k hk).1)
            have HP9 := hide hown
            have hb9 := (unhide HC9).size
            clear hown hgrow HP8 HX8 HC8 hb8
            simp only [Act.put, List.setIfInBounds_toArray, List.set_cons_zero, List.set_cons_succ]
            have HFf : Hid (Four w _ _ _ _ _ _ _) := (unhide HFd).below (bnx (unhide HB5) (unhide HC9))
            go_upto_region 17 with fail
            iterate 10 go_step
            refine wpList_value rfl (ints_hi _ _ _ _ _ _ _ a7 N c7 0 rfl rfl (by omega) _) ?_
            simp only [Act.put, List.setIfInBounds_toArray, List.set_cons_zero, List.set_cons_succ]
            refine wpList_app_c w9 rfl _ _ 28 rfl w5.heap.size 3 j0 _ 1 8 Try.underlying28 ji jz0 jz1 jz2 rfl (by decide) _ _ (0 + 0 + 1) (N - 0) _ _ rfl rfl (unhide HP9) (CIn.hi (by have := (unhide HFf).t; rw [← unhide HN] at this; exact this) 0 (by omega)) (drop_one' (ints_one _) _) (by unfold maxLen; omega) (by omega) hb9 ?_
            intro vt w10 hown hgrow _
            have HC10 : Hid (Below w5.heap.size w5 w10) := (unhide HC9).grown hgrow hb9 (fun k hk => (owns_blk (unhide HP9) k hk).1)
            have HF10 : Hid (Four w w10 v5 u6 vt u8 (T.take 0 ++ [((q, z), C.length)] ++ T.drop 0) (((qs.zip ats).take (k + 1)).filter (fun x => !decide (x.2 ≤ now)))) := by
              rw [unhide HFC]
              refine (unhide HFd).out (bnx (unhide HB5) (unhide HC10)) ?_ ?_
              · rw [unhide HLE, unhide HRL, ← unhide HN]
                exact owns_below (unhide HO5) (unhide HC10)
              · rw [unhide HLE, unhide HRT, ← unhide HN]
                exact owns_mono hown hb5
            rw [← unhide HFS] at HT2
            clear hown hgrow HP9 HC9 HC10 HFf HFd HB5 HO5 HCL hb9 hb5 HRL HRT HLE HFS HFC hwd HN hc5 hc7
            simp only [Act.put, List.setIfInBounds_toArray, List.set_cons_zero, List.set_cons_succ]
            go_wp2
            go_roundw
            case rel => exact ⟨k + 1, _, by omega, by go_num, HF10, HT2⟩
            case measure => simp [intOf]; omega
          · obtain ⟨y, Hy⟩ : ∃ y, Hid (jn = y + 1) := ⟨jn - 1, by show _ = _; omega⟩
            have uy := unhide Hy
            have hjg : decide ((jn : Int) > 0) = true := decide_eq_true (by omega)
            have hjl : decide (0 < (jn : Int)) = true := decide_eq_true (by omega)
            have eY : IntKind.i64.wrap ((jn : Int) - 1) = (y : Int) := by rw [IntKind.wrap_i64]; omega
            have hy1 : y < N := by omega
            have hjp : 0 < jn := by omega
            clear uy
            obtain ⟨g7, hg7⟩ : ∃ g, a7 = some ⟨g, 0, none⟩ := by
              rcases (unhide HF).t.2 with ⟨_, e⟩ | ⟨g, _, _, e, _⟩
              · have := unhide HN; omega
              · simp only [Value.slice.injEq] at e; exact ⟨g, e.1⟩
            subst hg7
            have t1 : wr.cell? ⟨g7, y, none⟩ = some (.int .i64 (T.getD y default).1.2) := by
              have h9 := (unhide HF).t
              have hyT : y < T.length := by have := unhide HN; omega
              rw [← unhide HN] at h9
              rw [h9.cellAt y (by omega), List.getElem?_map, List.getElem?_map, List.getD_eq_getElem?_getD, List.getElem?_eq_getElem hyT]
              rfl
            obtain ⟨tm, htm⟩ : ∃ tm, tm = (T.getD y default).1.2 := ⟨_, rfl⟩
            rw [← htm] at t1
            have HTY := hide htm
            clear htm
            by_cases hcmp : z < tm
            · have hcd : decide (tm > z) = true := decide_eq_true hcmp
              go_wp2_with fail
              go_quiet (fail)
              go_wp2
              go_roundw
              case rel => exact ⟨y, n + nq, by omega, by first | rfl | go_num, by first | rfl | exact drewN_drewN _ _ _, fun m h1 h2 => by
                by_cases e : m = y
                · subst e; rw [← unhide HTY]; exact hcmp
                · exact (unhide HHI) m (by have := unhide Hy; omega) h2⟩
              case measure => have := unhide Hy; simp [intOf]; omega
            · have hcd : decide (tm > z) = false := decide_eq_false hcmp
              go_wp2_with fail
              go_quiet (fail)
              have HLO : Hid (jn = 0 ∨ (T.getD (jn - 1) default).1.2 ≤ z) := .inr (by rw [show jn - 1 = y from by have := unhide Hy; omega, ← unhide HTY]; omega)
              have hD : Below wr.heap.size wr ((wr.drewN n).drewN nq) := below_drewN (below_drewN (Below.refl _ _) n) nq
              have HFd := hide ((unhide HF).below hD)
              have HCL : Hid (∀ W : World, Below ((wr.drewN n).drewN nq).heap.size ((wr.drewN n).drewN nq) W → W.cell? ⟨r, 0, none⟩ = some (.slice (some ⟨gL, 0, none⟩) L cL) ∧ W.cell? ⟨r, 1, none⟩ = some (.slice (some ⟨gA, 0, none⟩) L cA) ∧ W.cell? ⟨gA, k, none⟩ = some (.int .i64 z) ∧ W.rangeAt gL (k * 11) (mcs q)) := fun W hW => by
                have d0' : ((wr.drewN n).drewN nq).cell? ⟨r, 0, none⟩ = some (.slice (some ⟨gL, 0, none⟩) L cL) := d0
                have d1' : ((wr.drewN n).drewN nq).cell? ⟨r, 1, none⟩ = some (.slice (some ⟨gA, 0, none⟩) L cA) := d1
                have e1' : ((wr.drewN n).drewN nq).cell? ⟨gA, k, none⟩ = some (.int .i64 z) := e1
                exact ⟨(hW.cell (cell_lt d0')).trans d0', (hW.cell (cell_lt d1')).trans d1', (hW.cell (cell_lt e1')).trans e1', range_below (w := (wr.drewN n).drewN nq) (unhide HRG) hW⟩
              have hwd : w.heap.size ≤ ((wr.drewN n).drewN nq).heap.size := (unhide HFd).bel.size
              have hjt : jn ≤ T.length := by have := unhide HN; omega
              have HT2 : Hid ((T.take jn ++ [((q, z), C.length)] ++ T.drop jn).Perm ((C ++ [(q, z)]).zipIdx) ∧ (T.take jn ++ [((q, z), C.length)] ++ T.drop jn).Pairwise tlt) := ⟨ins_perm (unhide HT).1, ins_sorted (unhide HT).2 (tag_lt (unhide HT).1) hjt (unhide HLO) (unhide HHI)⟩
              have HRL : Hid (_ = _) := ins_rowL T (q, z) C.length jn hjt
              have HRT : Hid (_ = _) := ins_rowT T (q, z) C.length jn
              have HLE : Hid (_ = _) := ins_len T (q, z) C.length jn hjt
              have hc5 : N ≤ c5 := owns_cap (by have := (unhide HFd).o; rw [← unhide HN] at this; exact this)
              have hc7 : N ≤ c7 := owns_cap (by have := (unhide HFd).t; rw [← unhide HN] at this; exact this)
              clear hD HF d0 d1 e1 HRG HT HLO HHI HAK hjt
              go_upto_region 12 with fail
              generalize (wr.drewN n).drewN nq = wd at HFd HCL hwd ⊢
              iterate 1 go_step
              refine wpList_value rfl (rpcs_none _ _ _ _ _ _) ?_
              simp only [Act.put, List.setIfInBounds_toArray, List.set_cons_zero, List.set_cons_succ]
              iterate 6 go_step
              refine wpList_value rfl (rpcs_lo _ _ _ _ _ _ _ a5 N c5 jn rfl rfl (by omega) _) ?_
              simp only [Act.put, List.setIfInBounds_toArray, List.set_cons_zero, List.set_cons_succ]
              have hal : Below wd.heap.size wd (wd.alloc (.cells #[] 33)) := (Below.refl _ _).alloc (Nat.le_refl _) _
              have HO := hide (owns_new0 wd 33 11)
              have hb1 : wd.heap.size ≤ (wd.alloc (.cells #[] 33)).heap.size := by simp
              have HFe := hide ((unhide HFd).below hal)
              have HB1 := hide hal
              clear hal
              generalize wd.alloc (.cells #[] 33) = w1 at HO HFe HB1 hb1 ⊢
              refine wpList_app_c w1 rfl _ _ 27 rfl wd.heap.size 33 i0 _ 11 128 Try.underlying27 hi hz0 hz1 hz2 rfl (by decide) _ _ 0 jn [] _ rfl rfl (unhide HO) (CIn.lo (by have := (unhide HFe).o; rw [← unhide HN] at this; exact this) jn (by omega)) (take_one' (mrow_one _) _) (by unfold maxLen; omega) (by omega) hb1 ?_
              intro v2 w2 hown hgrow _
              have HB2 : Hid (Below wd.heap.size wd w2) := (unhide HB1).grown hgrow hb1 (fun k hk => (owns_blk (unhide HO) k hk).1)
              have HO2 := hide hown
              have hb2 := (unhide HB2).size
              clear hown hgrow HO HFe HB1 hb1
              simp only [Act.put, List.setIfInBounds_toArray, List.set_cons_zero, List.set_cons_succ]
              obtain ⟨d0, d1, e1, hrg⟩ := (unhide HCL) w2 (unhide HB2)
              have HRG := hide hrg
              clear hrg
              go_upto_region 13 with fail
              iterate 22 go_step
              refine wpList_load_mid rfl 33 _ rfl gL (k * 11) rfl (mcs q) _ (unhide HRG) Try.underlying33 rfl rpc_size ?_
              simp only [Act.put, List.setIfInBounds_toArray, List.set_cons_zero, List.set_cons_succ]
              refine wpList_value rfl (rpc_slice _ _ _ _ _ _ q rfl _) ?_
              simp only [Act.put, List.setIfInBounds_toArray, List.set_cons_zero, List.set_cons_succ]
              have hal : Below w2.heap.size w2 (w2.alloc (.cells (mcs q).toArray 33)) := (Below.refl _ _).alloc (Nat.le_refl _) _
              have HX3 : Hid (Bx (w2.alloc (.cells (mcs q).toArray 33)) w2.heap.size (mcs q) 33) := Bx.new w2 (mcs q) 33 _ rfl
              have HO3 := hide (owns_below (unhide HO2) hal)
              have HB3 : Hid (Below wd.heap.size wd (w2.alloc (.cells (mcs q).toArray 33))) := bnx (unhide HB2) hal
              have hb3 := (unhide HB3).size
              clear HO2 HB2 hal HRG d0 d1 e1
              generalize w2.alloc (.cells (mcs q).toArray 33) = w3 at HX3 HO3 HB3 hb3 ⊢
              refine wpList_app_c w3 rfl _ _ 27 rfl wd.heap.size 33 i0 _ 11 128 Try.underlying27 hi hz0 hz1 hz2 rfl (by decide) _ _ (0 + jn) 1 _ _ rfl rfl (unhide HO3) (CIn.lit (unhide HX3) (mcs_len q)) (mcs_one q) (by unfold maxLen; omega) (by omega) hb3 ?_
              intro v4 w4 hown hgrow _
              have HB4 : Hid (Below wd.heap.size wd w4) := (unhide HB3).grown hgrow hb3 (fun k hk => (owns_blk (unhide HO3) k hk).1)
              have HO4 := hide hown
              have hb4 := (unhide HB4).size
              clear hown hgrow HO3 HX3 HB3 hb3 hb2
              simp only [Act.put, List.setIfInBounds_toArray, List.set_cons_zero, List.set_cons_succ]
              have HFf := hide ((unhide HFd).below (unhide HB4))
              go_upto_region 14 with fail
              iterate 10 go_step
              refine wpList_value rfl (rpcs_hi _ _ _ _ _ _ _ a5 N c5 jn rfl rfl (by omega) _) ?_
              simp only [Act.put, List.setIfInBounds_toArray, List.set_cons_zero, List.set_cons_succ]
              refine wpList_app_c w4 rfl _ _ 27 rfl wd.heap.size 33 i0 _ 11 128 Try.underlying27 hi hz0 hz1 hz2 rfl (by decide) _ _ (0 + jn + 1) (N - jn) _ _ rfl rfl (unhide HO4) (CIn.hi (by have := (unhide HFf).o; rw [← unhide HN] at this; exact this) jn (by omega)) (drop_one' (mrow_one _) _) (by unfold maxLen; omega) (by omega) hb4 ?_
              intro v5 w5 hown hgrow _
              have HB5 : Hid (Below wd.heap.size wd w5) := (unhide HB4).grown hgrow hb4 (fun k hk => (owns_blk (unhide HO4) k hk).1)
              have HO5 := hide hown
              have hb5 := (unhide HB5).size
              clear hown hgrow HO4 HB4 hb4 HFf
              simp only [Act.put, List.setIfInBounds_toArray, List.set_cons_zero, List.set_cons_succ]
              go_upto_region 15 with fail
              iterate 1 go_step
              refine wpList_value rfl (ints_none _ _ _ _ _ _) ?_
              simp only [Act.put, List.setIfInBounds_toArray, List.set_cons_zero, List.set_cons_succ]
              iterate 6 go_step
              refine wpList_value rfl (ints_lo _ _ _ _ _ _ _ (some ⟨g7, 0, none⟩) N c7 jn rfl rfl (by omega) _) ?_
              simp only [Act.put, List.setIfInBounds_toArray, List.set_cons_zero, List.set_cons_succ]
              have hal : Below w5.heap.size w5 (w5.alloc (.cells #[] 3)) := (Below.refl _ _).alloc (Nat.le_refl _) _
              have HP := hide (owns_new0 w5 3 1)
              have hb6 : w5.heap.size ≤ (w5.alloc (.cells #[] 3)).heap.size := by simp
              have HC6 := hide hal
              have HFe : Hid (Four w _ _ _ _ _ _ _) := (unhide HFd).below (bnx (unhide HB5) hal)
              clear hal
              generalize w5.alloc (.cells #[] 3) = w6 at HP HFe HC6 hb6 ⊢
              refine wpList_app_c w6 rfl _ _ 28 rfl w5.heap.size 3 j0 _ 1 8 Try.underlying28 ji jz0 jz1 jz2 rfl (by decide) _ _ 0 jn [] _ rfl rfl (unhide HP) (CIn.lo (by have := (unhide HFe).t; rw [← unhide HN] at this; exact this) jn (by omega)) (take_one' (ints_one _) _) (by unfold maxLen; omega) (by omega) hb6 ?_
              intro v7 w7 hown hgrow _
              have HC7 : Hid (Below w5.heap.size w5 w7) := (unhide HC6).grown hgrow hb6 (fun k hk => (owns_blk (unhide HP) k hk).1)
              have HP7 := hide hown
              have hb7 := (unhide HC7).size
              clear hown hgrow HP HC6 hb6 HFe
              simp only [Act.put, List.setIfInBounds_toArray, List.set_cons_zero, List.set_cons_succ]
              obtain ⟨d0, d1, e1, hrg⟩ := (unhide HCL) w7 (bnx (unhide HB5) (unhide HC7))
              clear hrg d0
              go_upto_region 16 with fail
              iterate 25 go_step
              refine wpList_value rfl (int_slice _ _ _ _ _ _ z rfl _) ?_
              simp only [Act.put, List.setIfInBounds_toArray, List.set_cons_zero, List.set_cons_succ]
              have hal : Below w7.heap.size w7 (w7.alloc (.cells [.int .i64 z].toArray 3)) := (Below.refl _ _).alloc (Nat.le_refl _) _
              have HX8 : Hid (Bx (w7.alloc (.cells [.int .i64 z].toArray 3)) w7.heap.size [.int .i64 z] 3) := Bx.new w7 [.int .i64 z] 3 _ rfl
              have HP8 := hide (owns_below (unhide HP7) hal)
              have HC8 : Hid (Below w5.heap.size w5 (w7.alloc (.cells [.int .i64 z].toArray 3))) := bnx (unhide HC7) hal
              have hb8 := (unhide HC8).size
              clear HP7 HC7 hal d1 e1 hb7
              generalize w7.alloc (.cells [.int .i64 z].toArray 3) = w8 at HX8 HP8 HC8 hb8 ⊢
              refine wpList_app_c w8 rfl _ _ 28 rfl w5.heap.size 3 j0 _ 1 8 Try.underlying28 ji jz0 jz1 jz2 rfl (by decide) _ _ (0 + jn) 1 _ _ rfl rfl (unhide HP8) (CIn.lit (unhide HX8) rfl) (one_one _ _) (by unfold maxLen; omega) (by omega) hb8 ?_
              intro v9 w9 hown hgrow _
              have HC9 : Hid (Below w5.heap.size w5 w9) := (unhide HC8).grown hgrow hb8 (fun k hk => (owns_blk (unhide HP8) k hk).1)
              have HP9 := hide hown
              have hb9 := (unhide HC9).size
              clear hown hgrow HP8 HX8 HC8 hb8
              simp only [Act.put, List.setIfInBounds_toArray, List.set_cons_zero, List.set_cons_succ]
              have HFf : Hid (Four w _ _ _ _ _ _ _) := (unhide HFd).below (bnx (unhide HB5) (unhide HC9))
              go_upto_region 17 with fail
              iterate 10 go_step
              refine wpList_value rfl (ints_hi _ _ _ _ _ _ _ (some ⟨g7, 0, none⟩) N c7 jn rfl rfl (by omega) _) ?_
              simp only [Act.put, List.setIfInBounds_toArray, List.set_cons_zero, List.set_cons_succ]
              refine wpList_app_c w9 rfl _ _ 28 rfl w5.heap.size 3 j0 _ 1 8 Try.underlying28 ji jz0 jz1 jz2 rfl (by decide) _ _ (0 + jn + 1) (N - jn) _ _ rfl rfl (unhide HP9) (CIn.hi (by have := (unhide HFf).t; rw [← unhide HN] at this; exact this) jn (by omega)) (drop_one' (ints_one _) _) (by unfold maxLen; omega) (by omega) hb9 ?_
              intro vt w10 hown hgrow _
              have HC10 : Hid (Below w5.heap.size w5 w10) := (unhide HC9).grown hgrow hb9 (fun k hk => (owns_blk (unhide HP9) k hk).1)
              have HF10 : Hid (Four w w10 v5 u6 vt u8 (T.take jn ++ [((q, z), C.length)] ++ T.drop jn) (((qs.zip ats).take (k + 1)).filter (fun x => !decide (x.2 ≤ now)))) := by
                rw [unhide HFC]
                refine (unhide HFd).out (bnx (unhide HB5) (unhide HC10)) ?_ ?_
                · rw [unhide HLE, unhide HRL, ← unhide HN]
                  exact owns_below (unhide HO5) (unhide HC10)
                · rw [unhide HLE, unhide HRT, ← unhide HN]
                  exact owns_mono hown hb5
              rw [← unhide HFS] at HT2
              clear hown hgrow HP9 HC9 HC10 HFf HFd HB5 HO5 HCL hb9 hb5 HRL HRT HLE HFS HFC hwd HN hc5 hc7
              simp only [Act.put, List.setIfInBounds_toArray, List.set_cons_zero, List.set_cons_succ]
              go_wp2
              go_roundw
              case rel => exact ⟨k + 1, _, by omega, by go_num, HF10, HT2⟩
              case measure => simp [intOf]; omega
    · have hkl : k = L := by omega
      subst hkl
      have HZ : Hid ((qs.zip ats).take k = qs.zip ats) := List.take_of_length_le (by rw [List.length_zip, unhide HLQ, unhide HLA]; omega)
      rw [unhide HZ] at HF HT
      obtain ⟨al, cl, hul⟩ := owns_slice (unhide HF).l
      obtain ⟨aa, ca, hua⟩ := owns_slice (unhide HF).a
      have HUL : Hid (u6 = .slice al _ cl) := hul
      have HUA : Hid (u8 = .slice aa _ ca) := hua
      generalize hrl : ((qs.zip ats).filter (fun x => !decide (x.2 ≤ now))).length = M at hul hua HUL HUA
      subst hul hua
      have HBX : Hid (Bx ((wr.setCell ⟨r, 0, none⟩ (.slice al M cl)).setCell ⟨r, 1, none⟩ (.slice aa M ca)) r [.slice al M cl, .slice aa M ca] 30) := ((unhide HSr).box.set 0 (.slice al M cl) (by simp)).set 1 (.slice aa M ca) (by simp)
      have f0 := (unhide HSr).box.frz 0
      have f1 : (wr.setCell ⟨r, 0, none⟩ (.slice al M cl)).frozen? ⟨r, 1, none⟩ = false := ((unhide HSr).box.set 0 (.slice al M cl) (by simp)).frz 1
      have d1' : (wr.setCell ⟨r, 0, none⟩ (.slice al M cl)).cell? ⟨r, 1, none⟩ = some vA := ((unhide HSr).box.set 0 (.slice al M cl) (by simp)).cell 1 _ rfl
      rw [unhide HVA] at d1'
      have HFN : Hid (PTaken w B r vL vA qs ats now ((wr.setCell ⟨r, 0, none⟩ (.slice al M cl)).setCell ⟨r, 1, none⟩ (.slice aa M ca)) u5 T (.slice al M cl) (.slice aa M ca) ((qs.zip ats).filter (fun x => !decide (x.2 ≤ now)))) := by
        have hS := unhide HS
        have hF := unhide HF
        have hB := hS.low
        have hr := hS.box.lt
        have hfr : Fr (fun k => k = r) wr ((wr.setCell ⟨r, 0, none⟩ (.slice al M cl)).setCell ⟨r, 1, none⟩ (.slice aa M ca)) := (set_fr (F := fun k => k = r) rfl).trans (set_fr (F := fun k => k = r) rfl)
        have hfw : Fr (fun k => k = r) w ((wr.setCell ⟨r, 0, none⟩ (.slice al M cl)).setCell ⟨r, 1, none⟩ (.slice aa M ca)) := (Fr.of_below hF.bel).trans hfr
        generalize (wr.setCell ⟨r, 0, none⟩ (.slice al M cl)).setCell ⟨r, 1, none⟩ (.slice aa M ca) = wF at hfr hfw HBX ⊢
        obtain ⟨g1, g2, g3, g4⟩ := gp_parts hS.nd
        have hfst : (qs.zip ats).map (·.1) = qs := by
          have := List.map_fst_zip (l₁ := qs) (l₂ := ats) (by rw [unhide HLQ, unhide HLA]; exact Nat.le_refl _)
          exact this
        have hperm : (((qs.zip ats).filter (fun x => decide (x.2 ≤ now))).map (·.1) ++ ((qs.zip ats).filter (fun x => !decide (x.2 ≤ now))).map (·.1)).Perm qs := by
          have h1 := (List.filter_append_perm (fun x : Mq × Int => decide (x.2 ≤ now)) (qs.zip ats)).map (·.1)
          rw [hfst, List.map_append] at h1
          exact h1
        have hmem : ∀ q, q ∈ ((qs.zip ats).filter (fun x => decide (x.2 ≤ now))).map (·.1) ∨ q ∈ ((qs.zip ats).filter (fun x => !decide (x.2 ≤ now))).map (·.1) → q ∈ qs := fun q hq => hperm.mem_iff.1 (List.mem_append.2 hq)
        have hzip : (qs.map (·.r)).zip ats = (qs.zip ats).map (fun x => (x.1.r, x.2)) := by
          rw [List.zip_map_left]
          rfl
        have hown : ∀ q ∈ qs, MqOwn wF B q := fun q hq => (hS.own q hq).fr hfw (fun g hg e => g3 g (List.mem_flatMap.2 ⟨q, hq, hg⟩) e)
        have hnd2 : ((((qs.zip ats).filter (fun x => !decide (x.2 ≤ now))).map (·.1)).flatMap qb).Nodup := by
          have h1 := ((hperm.flatMap_right qb).nodup_iff).2 g4
          rw [List.flatMap_append] at h1
          exact (List.nodup_append.1 h1).2.1
        have hmb : ∀ g ∈ (((qs.zip ats).filter (fun x => !decide (x.2 ≤ now))).map (·.1)).flatMap qb, g ∈ qs.flatMap qb := fun g hg => by
          obtain ⟨q, hq, h2⟩ := List.mem_flatMap.1 hg
          exact List.mem_flatMap.2 ⟨q, hmem q (.inr hq), h2⟩
        have hml : ∀ g ∈ qs.flatMap qb, g < w.heap.size := fun g hg => by
          obtain ⟨q, hq, h2⟩ := List.mem_flatMap.1 hg
          exact ((hS.own q hq).blk g h2).2
        have hbl : ∀ g ∈ bl (Value.slice al M cl), w.heap.size ≤ g := fun g hg => (owns_blk hF.l g (mem_bl.1 hg)).1
        have hba : ∀ g ∈ bl (Value.slice aa M ca), w.heap.size ≤ g := fun g hg => (owns_blk hF.a g (mem_bl.1 hg)).1
        have hbo : ∀ g, u5.ownBlock = some g → w.heap.size ≤ g := fun g hg => (owns_blk hF.o g hg).1
        refine ⟨⟨unhide HBX, hB, ?_, ?_, fun q hq => hown q (hmem q (.inr hq)), gp_of (fun g hg => ⟨?_, ?_, ?_⟩) (fun g hg => ⟨?_, ?_⟩) (fun g hg => g3 g (hmb g hg)) hnd2⟩, ?_, hfw.weak (fun k e => mem_gp.2 (.inl e)), ?_, ?_, ?_⟩
        · rw [List.length_map]
          exact owns_mono (owns_fr hF.l hfr (fun g hg e => by have := hbl g (mem_bl.2 hg); omega)) (by omega)
        · rw [List.length_map]
          exact owns_mono (owns_fr hF.a hfr (fun g hg e => by have := hba g (mem_bl.2 hg); omega)) (by omega)
        · have := hbl g hg; omega
        · exact (hF.dl g hg).2.2
        · exact fun e => by have := hbl g hg; have := hml g (hmb g e); omega
        · have := hba g hg; omega
        · exact fun e => by have := hba g hg; have := hml g (hmb g e); omega
        · refine rps_of_own (B := w.heap.size) (by rw [List.length_map]; exact owns_fr hF.o hfr (fun g hg e => by have := hbo g hg; omega)) (fun q hq => ?_)
          obtain ⟨t, ht, rfl⟩ := List.mem_map.1 hq
          have h1 := (unhide HT).1.mem_iff.1 ht
          have h2 : t.1 ∈ (qs.zip ats).filter (fun x => decide (x.2 ≤ now)) := by
            have := List.mem_map_of_mem (f := Prod.fst) h1
            simpa using this
          have h3 := hown _ (hmem _ (.inl (List.mem_map_of_mem (f := Prod.fst) h2)))
          exact ⟨h3.rok, h3.2.2⟩
        · intro g hg
          rcases mem_gp.1 hg with e | hg | hg | ⟨q, hq, h2⟩
          · exact .inl (mem_gp.2 (.inl e))
          · exact .inr (hbl g hg)
          · exact .inr (hba g hg)
          · exact .inl (mem_gp.2 (.inr (.inr (.inr ⟨q, hmem q (.inr hq), h2⟩))))
        · rw [hzip, List.filter_map]
          exact told_of_tp (unhide HT).1 (unhide HT).2
        · rw [hzip, List.filter_map]
          rfl
      have HU : Hid (∃ a c n, u5 = .slice a n c) := by
        obtain ⟨a, c, h⟩ := owns_slice (unhide HF).o
        exact ⟨a, c, _, h⟩
      obtain ⟨a5, c5, n5, h5⟩ := unhide HU
      subst h5
      clear HF HT HZ HUL HUA hrl HBX HU HSr
      go_wp2
      go_ret
      exact ⟨_, T, _, _, _, rfl, HFN⟩
end Go.Proofs.Ytfgelagmjjjlgaa.Nt
