/- Proved here: rpc's Check and what it stands on: whether a message may be. Helper contracts. -/
import Derived.Test.YtmmhdhpocjnlbaaGreatDoorZJRp
import Derived.Test.YtmmhdhpocjnlbaaGreatDoorZJMr
import Derived.Test.YtmmhdhpocjnlbaaGreatDoorZUPr
import Derived.Deep.Cut
namespace Go.Proofs.YtmmhdhpocjnlbaaGreatDoor.Jr
open Go.RowKit Nt Et Qu
set_option maxRecDepth 100000

theorem isNode_any (n : Int) (w : World) : Calls Tryz.prog 49 #[.int .i64 n] w fun e w' => e = .returned (.bool (nodB n)) ∧ w' = w := by
  by_cases h1 : 1 ≤ n
  · by_cases h2 : n ≤ 7
    · rw [show nodB n = true by simp [nodB, h1, h2]]
      go_enter Tryz.func49, Tryz.ntmps49
      go_wp2
      go_ret
      exact ⟨rfl, rfl⟩
    · rw [show nodB n = false by simp [nodB, h2]]
      go_enter Tryz.func49, Tryz.ntmps49
      go_wp2
      go_ret
      exact ⟨rfl, rfl⟩
  · rw [show nodB n = false by simp [nodB, h1]]
    go_enter Tryz.func49, Tryz.ntmps49
    go_wp2
    go_ret
    exact ⟨rfl, rfl⟩
theorem isNumber_any (n : Int) (w : World) : Calls Tryz.prog 50 #[.int .i64 n] w fun e w' => e = .returned (.bool (inB n)) ∧ w' = w := by
  by_cases h1 : 0 ≤ n
  · by_cases h2 : n ≤ 1099511627775
    · rw [show inB n = true by simp [inB, h1, h2]]
      have h3 : n < 1099511627776 := by omega
      go_enter Tryz.func50, Tryz.ntmps50
      go_wp2
      go_ret
      exact ⟨rfl, rfl⟩
    · rw [show inB n = false by simp [inB, h2]]
      have h3 : ¬ n < 1099511627776 := by omega
      have h3d : decide (n < 1099511627776) = false := decide_eq_false h3
      go_enter Tryz.func50, Tryz.ntmps50
      go_wp2
      go_ret
      exact ⟨rfl, rfl⟩
  · rw [show inB n = false by simp [inB, h1]]
    go_enter Tryz.func50, Tryz.ntmps50
    go_wp2
    go_ret
    exact ⟨rfl, rfl⟩
theorem al_below (w : World) (o : Obj) : Below w.heap.size w (w.alloc o) := (Below.refl _ _).alloc (Nat.le_refl _) _
set_option maxHeartbeats 4000000 in
theorem isHead_any (k f t te ix lt co : Int) (ok : Bool) (ea ma : Option Addr) (en ec mn mcp : Nat) (es : List En) (ms : List Int) (dt : ByteArray) (w : World) : Calls Tryz.prog 38 #[.agg #[.int .i64 k, .int .i64 f, .int .i64 t, .int .i64 te, .int .i64 ix, .int .i64 lt, .int .i64 co, .bool ok, .slice ea en ec, .slice ma mn mcp, .string dt]] w fun e w' => e = .returned (.bool (hdB ⟨k, f, t, te, ix, lt, co, ok, es, ms, dt⟩)) ∧ Below w.heap.size w w' := by
  by_cases h1 : 1 ≤ k
  · by_cases h2 : k ≤ 7
    · have g1 : ¬ k < 1 := by omega
      have g2 : ¬ 7 < k := by omega
      obtain ⟨bf, hf⟩ : ∃ b, b = nodB f := ⟨_, rfl⟩
      have Hf := hide hf.symm
      clear hf
      cases bf
      · rw [show hdB ⟨k, f, t, te, ix, lt, co, ok, es, ms, dt⟩ = false by simp [hdB, unhide Hf]]
        go_enter Tryz.func38, Tryz.ntmps38
        go_wp2_with fail
        refine (isNode_any f _).mono ?_
        rw [unhide Hf]
        rintro e w' ⟨rfl, rfl⟩
        go_wp2
        go_ret
        exact ⟨rfl, al_below _ _⟩
      · obtain ⟨bt, ht⟩ : ∃ b, b = nodB t := ⟨_, rfl⟩
        have Ht := hide ht.symm
        clear ht
        cases bt
        · rw [show hdB ⟨k, f, t, te, ix, lt, co, ok, es, ms, dt⟩ = false by simp [hdB, unhide Ht]]
          go_enter Tryz.func38, Tryz.ntmps38
          go_wp2_with fail
          refine (isNode_any f _).mono ?_
          rw [unhide Hf]
          rintro e w' ⟨rfl, rfl⟩
          go_wp2_with fail
          refine (isNode_any t _).mono ?_
          rw [unhide Ht]
          rintro e w' ⟨rfl, rfl⟩
          go_wp2
          go_ret
          exact ⟨rfl, al_below _ _⟩
        · obtain ⟨bte, hte⟩ : ∃ b, b = inB te := ⟨_, rfl⟩
          have Hte := hide hte.symm
          clear hte
          cases bte
          · rw [show hdB ⟨k, f, t, te, ix, lt, co, ok, es, ms, dt⟩ = false by simp [hdB, unhide Hte]]
            go_enter Tryz.func38, Tryz.ntmps38
            go_wp2_with fail
            refine (isNode_any f _).mono ?_
            rw [unhide Hf]
            rintro e w' ⟨rfl, rfl⟩
            go_wp2_with fail
            refine (isNode_any t _).mono ?_
            rw [unhide Ht]
            rintro e w' ⟨rfl, rfl⟩
            go_wp2_with fail
            refine (isNumber_any te _).mono ?_
            rw [unhide Hte]
            rintro e w' ⟨rfl, rfl⟩
            go_wp2
            go_ret
            exact ⟨rfl, al_below _ _⟩
          · obtain ⟨bix, hix⟩ : ∃ b, b = inB ix := ⟨_, rfl⟩
            have Hix := hide hix.symm
            clear hix
            cases bix
            · rw [show hdB ⟨k, f, t, te, ix, lt, co, ok, es, ms, dt⟩ = false by simp [hdB, unhide Hix]]
              go_enter Tryz.func38, Tryz.ntmps38
              go_wp2_with fail
              refine (isNode_any f _).mono ?_
              rw [unhide Hf]
              rintro e w' ⟨rfl, rfl⟩
              go_wp2_with fail
              refine (isNode_any t _).mono ?_
              rw [unhide Ht]
              rintro e w' ⟨rfl, rfl⟩
              go_wp2_with fail
              refine (isNumber_any te _).mono ?_
              rw [unhide Hte]
              rintro e w' ⟨rfl, rfl⟩
              go_wp2_with fail
              refine (isNumber_any ix _).mono ?_
              rw [unhide Hix]
              rintro e w' ⟨rfl, rfl⟩
              go_wp2
              go_ret
              exact ⟨rfl, al_below _ _⟩
            · obtain ⟨blt, hlt⟩ : ∃ b, b = inB lt := ⟨_, rfl⟩
              have Hlt := hide hlt.symm
              clear hlt
              cases blt
              · rw [show hdB ⟨k, f, t, te, ix, lt, co, ok, es, ms, dt⟩ = false by simp [hdB, unhide Hlt]]
                go_enter Tryz.func38, Tryz.ntmps38
                go_wp2_with fail
                refine (isNode_any f _).mono ?_
                rw [unhide Hf]
                rintro e w' ⟨rfl, rfl⟩
                go_wp2_with fail
                refine (isNode_any t _).mono ?_
                rw [unhide Ht]
                rintro e w' ⟨rfl, rfl⟩
                go_wp2_with fail
                refine (isNumber_any te _).mono ?_
                rw [unhide Hte]
                rintro e w' ⟨rfl, rfl⟩
                go_wp2_with fail
                refine (isNumber_any ix _).mono ?_
                rw [unhide Hix]
                rintro e w' ⟨rfl, rfl⟩
                go_wp2_with fail
                refine (isNumber_any lt _).mono ?_
                rw [unhide Hlt]
                rintro e w' ⟨rfl, rfl⟩
                go_wp2
                go_ret
                exact ⟨rfl, al_below _ _⟩
              · obtain ⟨bco, hco⟩ : ∃ b, b = inB co := ⟨_, rfl⟩
                have Hco := hide hco.symm
                clear hco
                cases bco
                · rw [show hdB ⟨k, f, t, te, ix, lt, co, ok, es, ms, dt⟩ = false by simp [hdB, unhide Hco]]
                  go_enter Tryz.func38, Tryz.ntmps38
                  go_wp2_with fail
                  refine (isNode_any f _).mono ?_
                  rw [unhide Hf]
                  rintro e w' ⟨rfl, rfl⟩
                  go_wp2_with fail
                  refine (isNode_any t _).mono ?_
                  rw [unhide Ht]
                  rintro e w' ⟨rfl, rfl⟩
                  go_wp2_with fail
                  refine (isNumber_any te _).mono ?_
                  rw [unhide Hte]
                  rintro e w' ⟨rfl, rfl⟩
                  go_wp2_with fail
                  refine (isNumber_any ix _).mono ?_
                  rw [unhide Hix]
                  rintro e w' ⟨rfl, rfl⟩
                  go_wp2_with fail
                  refine (isNumber_any lt _).mono ?_
                  rw [unhide Hlt]
                  rintro e w' ⟨rfl, rfl⟩
                  go_wp2_with fail
                  refine (isNumber_any co _).mono ?_
                  rw [unhide Hco]
                  rintro e w' ⟨rfl, rfl⟩
                  go_wp2
                  go_ret
                  exact ⟨rfl, al_below _ _⟩
                · rw [show hdB ⟨k, f, t, te, ix, lt, co, ok, es, ms, dt⟩ = true by simp [hdB, h1, h2, unhide Hf, unhide Ht, unhide Hte, unhide Hix, unhide Hlt, unhide Hco]]
                  go_enter Tryz.func38, Tryz.ntmps38
                  go_wp2_with fail
                  refine (isNode_any f _).mono ?_
                  rw [unhide Hf]
                  rintro e w' ⟨rfl, rfl⟩
                  go_wp2_with fail
                  refine (isNode_any t _).mono ?_
                  rw [unhide Ht]
                  rintro e w' ⟨rfl, rfl⟩
                  go_wp2_with fail
                  refine (isNumber_any te _).mono ?_
                  rw [unhide Hte]
                  rintro e w' ⟨rfl, rfl⟩
                  go_wp2_with fail
                  refine (isNumber_any ix _).mono ?_
                  rw [unhide Hix]
                  rintro e w' ⟨rfl, rfl⟩
                  go_wp2_with fail
                  refine (isNumber_any lt _).mono ?_
                  rw [unhide Hlt]
                  rintro e w' ⟨rfl, rfl⟩
                  go_wp2_with fail
                  refine (isNumber_any co _).mono ?_
                  rw [unhide Hco]
                  rintro e w' ⟨rfl, rfl⟩
                  go_wp2
                  go_ret
                  exact ⟨rfl, al_below _ _⟩
    · rw [show hdB ⟨k, f, t, te, ix, lt, co, ok, es, ms, dt⟩ = false by simp [hdB, h2]]
      have g1 : ¬ k < 1 := by omega
      have g2 : 7 < k := by omega
      go_enter Tryz.func38, Tryz.ntmps38
      go_wp2
      go_ret
      exact ⟨rfl, al_below _ _⟩
  · rw [show hdB ⟨k, f, t, te, ix, lt, co, ok, es, ms, dt⟩ = false by simp [hdB, h1]]
    have g1 : k < 1 := by omega
    go_enter Tryz.func38, Tryz.ntmps38
    go_wp2
    go_ret
    exact ⟨rfl, al_below _ _⟩
theorem ba_nil {s : ByteArray} (h : s.size = 0) : s = ⟨#[]⟩ := by
  obtain ⟨⟨l⟩⟩ := s
  have : l.length = 0 := h
  rw [List.length_eq_zero_iff.1 this]
theorem ba_ne {s : ByteArray} (h : ¬ s.size = 0) : s.toList.isEmpty = false := by
  rw [ByteArray.toList_eq]
  cases hs : s.data.toList with
  | nil => exact absurd (show s.data.size = 0 by rw [← Array.length_toList, hs]; rfl) h
  | cons => rfl
set_option maxHeartbeats 4000000 in
theorem isEmpty_any (k f t te ix lt co : Int) (ok : Bool) (ea ma : Option Addr) (en ec mn mcp : Nat) (es : List En) (ms : List Int) (dt : ByteArray) (w : World) (HE : es.length = en) (HM : ms.length = mn) : Calls Tryz.prog 39 #[.agg #[.int .i64 k, .int .i64 f, .int .i64 t, .int .i64 te, .int .i64 ix, .int .i64 lt, .int .i64 co, .bool ok, .slice ea en ec, .slice ma mn mcp, .string dt]] w fun e w' => e = .returned (.bool (empB ⟨k, f, t, te, ix, lt, co, ok, es, ms, dt⟩)) ∧ Below w.heap.size w w' := by
  by_cases h1 : ix = 0
  · subst h1
    by_cases h2 : lt = 0
    · subst h2
      by_cases h3 : co = 0
      · subst h3
        by_cases h4 : ok = false
        · subst h4
          by_cases h5 : en = 0
          · subst h5
            by_cases h6 : mn = 0
            · subst h6
              by_cases h7 : dt.size = 0
              · obtain rfl : dt = ⟨#[]⟩ := ba_nil h7
                rw [show empB ⟨k, f, t, te, 0, 0, 0, false, es, ms, ⟨#[]⟩⟩ = true by unfold empB; dsimp only; rw [HE, HM]; rfl]
                go_enter Tryz.func39, Tryz.ntmps39
                go_wp2
                go_ret
                exact ⟨rfl, al_below _ _⟩
              · rw [show empB ⟨k, f, t, te, 0, 0, 0, false, es, ms, dt⟩ = false by simp [empB, HE, HM, h7]]
                have g7 : dt.toList.isEmpty = false := ba_ne h7
                go_enter Tryz.func39, Tryz.ntmps39
                go_wp2
                go_ret
                exact ⟨rfl, al_below _ _⟩
            · rw [show empB ⟨k, f, t, te, 0, 0, 0, false, es, ms, dt⟩ = false by simp [empB, HE, HM, h6]]
              have g6 : ¬ (mn : Int) = 0 := by omega
              go_enter Tryz.func39, Tryz.ntmps39
              go_wp2
              go_ret
              exact ⟨rfl, al_below _ _⟩
          · rw [show empB ⟨k, f, t, te, 0, 0, 0, false, es, ms, dt⟩ = false by simp [empB, HE, HM, h5]]
            have g5 : ¬ (en : Int) = 0 := by omega
            go_enter Tryz.func39, Tryz.ntmps39
            go_wp2
            go_ret
            exact ⟨rfl, al_below _ _⟩
        · obtain rfl : ok = true := by cases ok <;> simp_all
          rw [show empB ⟨k, f, t, te, 0, 0, 0, true, es, ms, dt⟩ = false by simp [empB]]
          go_enter Tryz.func39, Tryz.ntmps39
          go_wp2
          go_ret
          exact ⟨rfl, al_below _ _⟩
      · rw [show empB ⟨k, f, t, te, 0, 0, co, ok, es, ms, dt⟩ = false by simp [empB, HE, HM, h3]]
        go_enter Tryz.func39, Tryz.ntmps39
        go_wp2
        go_ret
        exact ⟨rfl, al_below _ _⟩
    · rw [show empB ⟨k, f, t, te, 0, lt, co, ok, es, ms, dt⟩ = false by simp [empB, HE, HM, h2]]
      go_enter Tryz.func39, Tryz.ntmps39
      go_wp2
      go_ret
      exact ⟨rfl, al_below _ _⟩
  · rw [show empB ⟨k, f, t, te, ix, lt, co, ok, es, ms, dt⟩ = false by simp [empB, HE, HM, h1]]
    go_enter Tryz.func39, Tryz.ntmps39
    go_wp2
    go_ret
    exact ⟨rfl, al_below _ _⟩
/-- a message beside its head and what its kind has use for, with its slices -/
def bq (q : Mq) : Mq :=
  if q.r.kind = 5 then { q with r := bsd q.r, ea := none, en := 0, ec := 0 }
  else if q.r.kind = 7 then { q with r := bsd q.r, ma := none, mn := 0, mc := 0 }
  else { q with r := bsd q.r }
theorem bq_r (q : Mq) : (bq q).r = bsd q.r := by
  unfold bq
  split
  · rfl
  · split <;> rfl
set_option maxHeartbeats 4000000 in
theorem beside_any (k f t te ix lt co : Int) (ok : Bool) (ea ma : Option Addr) (en ec mn mcp : Nat) (es : List En) (ms : List Int) (dt : ByteArray) (w : World) : Calls Tryz.prog 40 #[.agg #[.int .i64 k, .int .i64 f, .int .i64 t, .int .i64 te, .int .i64 ix, .int .i64 lt, .int .i64 co, .bool ok, .slice ea en ec, .slice ma mn mcp, .string dt]] w fun e w' => e = .returned (.agg (mcs (bq ⟨⟨k, f, t, te, ix, lt, co, ok, es, ms, dt⟩, ea, en, ec, ma, mn, mcp⟩)).toArray) ∧ Below w.heap.size w w' := by
  obtain ⟨B, hB⟩ : ∃ B, B = w.heap.size := ⟨_, rfl⟩
  have HB : Hid (Bx ((w.alloc (.cells #[.int .i64 k, .int .i64 f, .int .i64 t, .int .i64 te, .int .i64 ix, .int .i64 lt, .int .i64 co, .bool ok, .slice ea en ec, .slice ma mn mcp, .string dt] 27)).alloc (.cells rz.toArray 27)) B [.int .i64 k, .int .i64 f, .int .i64 t, .int .i64 te, .int .i64 ix, .int .i64 lt, .int .i64 co, .bool ok, .slice ea en ec, .slice ma mn mcp, .string dt] 27) := (Bx.new w [.int .i64 k, .int .i64 f, .int .i64 t, .int .i64 te, .int .i64 ix, .int .i64 lt, .int .i64 co, .bool ok, .slice ea en ec, .slice ma mn mcp, .string dt] 27 B hB).below (al_below _ _)
  have HC : Hid (Bx ((w.alloc (.cells #[.int .i64 k, .int .i64 f, .int .i64 t, .int .i64 te, .int .i64 ix, .int .i64 lt, .int .i64 co, .bool ok, .slice ea en ec, .slice ma mn mcp, .string dt] 27)).alloc (.cells rz.toArray 27)) (B + 1) rz 27) := Bx.new _ rz 27 _ (by rw [hB]; simp)
  have HW : Hid (Below w.heap.size w ((w.alloc (.cells #[.int .i64 k, .int .i64 f, .int .i64 t, .int .i64 te, .int .i64 ix, .int .i64 lt, .int .i64 co, .bool ok, .slice ea en ec, .slice ma mn mcp, .string dt] 27)).alloc (.cells rz.toArray 27))) := bnx (al_below _ _) (al_below _ _)
  by_cases h5 : k = 5
  · subst h5
    rw [show bq ⟨⟨5, f, t, te, ix, lt, co, ok, es, ms, dt⟩, ea, en, ec, ma, mn, mcp⟩ = ⟨⟨5, f, t, te, 0, 0, 0, ok, [], ms, dt⟩, none, 0, 0, ma, mn, mcp⟩ by rfl]
    go_enter Tryz.func40, Tryz.ntmps40
    go_upto_region 1 with fail
    change Code.wp _ _ _ _ ((w.alloc (.cells #[.int .i64 5, .int .i64 f, .int .i64 t, .int .i64 te, .int .i64 ix, .int .i64 lt, .int .i64 co, .bool ok, .slice ea en ec, .slice ma mn mcp, .string dt] 27)).alloc (.cells rz.toArray 27))
    rw [← hB]
    generalize (w.alloc (.cells #[.int .i64 5, .int .i64 f, .int .i64 t, .int .i64 te, .int .i64 ix, .int .i64 lt, .int .i64 co, .bool ok, .slice ea en ec, .slice ma mn mcp, .string dt] 27)).alloc (.cells rz.toArray 27) = W at HB HC HW ⊢
    have hBw : w.heap.size ≤ B := by omega
    have hsw := (unhide HW).size
    clear hB
    have c0 := (unhide HB).cell 0 _ rfl
    have c6 := (unhide HB).cell 6 _ rfl
    have f6 := (unhide HB).frz 6
    have c8 := (unhide HB).cell 8 _ rfl
    have f8 := (unhide HB).frz 8
    have c4 := (unhide HB).cell 4 _ rfl
    have f4 := (unhide HB).frz 4
    have c5 := (unhide HB).cell 5 _ rfl
    have f5 := (unhide HB).frz 5
    go_upto_region 14 with fail
    have HX : Hid (Bx ((((W.setCell ⟨B, 6, none⟩ (.int .i64 0)).setCell ⟨B, 8, none⟩ (.slice none 0 0)).setCell ⟨B, 4, none⟩ (.int .i64 0)).setCell ⟨B, 5, none⟩ (.int .i64 0)) B (mcs ⟨⟨5, f, t, te, 0, 0, 0, ok, [], ms, dt⟩, none, 0, 0, ma, mn, mcp⟩) 27) := (((((unhide HB).set 6 _ (by simp)).set 8 _ (by simp)).set 4 _ (by simp)).set 5 _ (by simp))
    have HY : Hid (Bx ((((W.setCell ⟨B, 6, none⟩ (.int .i64 0)).setCell ⟨B, 8, none⟩ (.slice none 0 0)).setCell ⟨B, 4, none⟩ (.int .i64 0)).setCell ⟨B, 5, none⟩ (.int .i64 0)) (B + 1) rz 27) := (((((unhide HC).set_ne 6 _ (by omega)).set_ne 8 _ (by omega)).set_ne 4 _ (by omega)).set_ne 5 _ (by omega))
    have HF : Hid (Fr (fun k => k = B) W ((((W.setCell ⟨B, 6, none⟩ (.int .i64 0)).setCell ⟨B, 8, none⟩ (.slice none 0 0)).setCell ⟨B, 4, none⟩ (.int .i64 0)).setCell ⟨B, 5, none⟩ (.int .i64 0))) := ((((Fr.refl (fun k => k = B) _).trans (set_fr (F := fun k => k = B) rfl)).trans (set_fr (F := fun k => k = B) rfl)).trans (set_fr (F := fun k => k = B) rfl)).trans (set_fr (F := fun k => k = B) rfl)
    have HZ : Hid (Below w.heap.size w ((((W.setCell ⟨B, 6, none⟩ (.int .i64 0)).setCell ⟨B, 8, none⟩ (.slice none 0 0)).setCell ⟨B, 4, none⟩ (.int .i64 0)).setCell ⟨B, 5, none⟩ (.int .i64 0))) := Fr.bel (unhide HW) (unhide HF) (fun i hi => by omega) hsw
    have hsz := (unhide HZ).size
    generalize ((((W.setCell ⟨B, 6, none⟩ (.int .i64 0)).setCell ⟨B, 8, none⟩ (.slice none 0 0)).setCell ⟨B, 4, none⟩ (.int .i64 0)).setCell ⟨B, 5, none⟩ (.int .i64 0)) = W2 at HX HY HZ hsz ⊢
    clear HB HC HW HF c0
    go_step
    refine wpList_load_mid rfl 27 _ rfl B 0 rfl (mcs ⟨⟨5, f, t, te, 0, 0, 0, ok, [], ms, dt⟩, none, 0, 0, ma, mn, mcp⟩) _ (unhide HX).range Tryz.underlying27 rfl rpc_size ?_
    simp only [Act.put, List.setIfInBounds_toArray, List.set_cons_zero, List.set_cons_succ]
    refine wpList_store_mid rfl 27 _ _ rfl (B + 1) 0 (mcs ⟨⟨5, f, t, te, 0, 0, 0, ok, [], ms, dt⟩, none, 0, 0, ma, mn, mcp⟩).toArray rfl rfl ((unhide HY).there _ (Nat.le_refl _)) rpc_size (mcs_all _) ?_
    simp only [Act.put]
    have HR := hide (World.rangeAt_setCells_same W2 (B + 1) 0 (mcs ⟨⟨5, f, t, te, 0, 0, 0, ok, [], ms, dt⟩, none, 0, 0, ma, mn, mcp⟩) ((unhide HY).there _ (Nat.le_refl _)))
    have HE : Hid (Below w.heap.size w (W2.setCells (B + 1) 0 (mcs ⟨⟨5, f, t, te, 0, 0, 0, ok, [], ms, dt⟩, none, 0, 0, ma, mn, mcp⟩))) := Fr.bel (unhide HZ) (setCells_fr (F := fun k => k = B + 1) (B + 1) rfl _ _ _) (fun i hi => by omega) hsz
    generalize W2.setCells (B + 1) 0 (mcs ⟨⟨5, f, t, te, 0, 0, 0, ok, [], ms, dt⟩, none, 0, 0, ma, mn, mcp⟩) = W3 at HR HE ⊢
    go_wp2
    refine bodyPost_ret (res_r (B := B + 1) (q := ⟨⟨5, f, t, te, 0, 0, 0, ok, [], ms, dt⟩, none, 0, 0, ma, mn, mcp⟩) rfl rfl (unhide HR)) rfl ?_
    exact ⟨rfl, unhide HE⟩
  · skip
    by_cases h7 : k = 7
    · subst h7
      rw [show bq ⟨⟨7, f, t, te, ix, lt, co, ok, es, ms, dt⟩, ea, en, ec, ma, mn, mcp⟩ = ⟨⟨7, f, t, te, 0, 0, co, ok, es, [], ⟨#[]⟩⟩, ea, en, ec, none, 0, 0⟩ by rfl]
      go_enter Tryz.func40, Tryz.ntmps40
      go_upto_region 1 with fail
      change Code.wp _ _ _ _ ((w.alloc (.cells #[.int .i64 7, .int .i64 f, .int .i64 t, .int .i64 te, .int .i64 ix, .int .i64 lt, .int .i64 co, .bool ok, .slice ea en ec, .slice ma mn mcp, .string dt] 27)).alloc (.cells rz.toArray 27))
      rw [← hB]
      generalize (w.alloc (.cells #[.int .i64 7, .int .i64 f, .int .i64 t, .int .i64 te, .int .i64 ix, .int .i64 lt, .int .i64 co, .bool ok, .slice ea en ec, .slice ma mn mcp, .string dt] 27)).alloc (.cells rz.toArray 27) = W at HB HC HW ⊢
      have hBw : w.heap.size ≤ B := by omega
      have hsw := (unhide HW).size
      clear hB
      have c0 := (unhide HB).cell 0 _ rfl
      have c4 := (unhide HB).cell 4 _ rfl
      have f4 := (unhide HB).frz 4
      have c5 := (unhide HB).cell 5 _ rfl
      have f5 := (unhide HB).frz 5
      have c9 := (unhide HB).cell 9 _ rfl
      have f9 := (unhide HB).frz 9
      have c10 := (unhide HB).cell 10 _ rfl
      have f10 := (unhide HB).frz 10
      go_upto_region 14 with fail
      have HX : Hid (Bx ((((W.setCell ⟨B, 4, none⟩ (.int .i64 0)).setCell ⟨B, 5, none⟩ (.int .i64 0)).setCell ⟨B, 9, none⟩ (.slice none 0 0)).setCell ⟨B, 10, none⟩ (.string ⟨#[]⟩)) B (mcs ⟨⟨7, f, t, te, 0, 0, co, ok, es, [], ⟨#[]⟩⟩, ea, en, ec, none, 0, 0⟩) 27) := (((((unhide HB).set 4 _ (by simp)).set 5 _ (by simp)).set 9 _ (by simp)).set 10 _ (by simp))
      have HY : Hid (Bx ((((W.setCell ⟨B, 4, none⟩ (.int .i64 0)).setCell ⟨B, 5, none⟩ (.int .i64 0)).setCell ⟨B, 9, none⟩ (.slice none 0 0)).setCell ⟨B, 10, none⟩ (.string ⟨#[]⟩)) (B + 1) rz 27) := (((((unhide HC).set_ne 4 _ (by omega)).set_ne 5 _ (by omega)).set_ne 9 _ (by omega)).set_ne 10 _ (by omega))
      have HF : Hid (Fr (fun k => k = B) W ((((W.setCell ⟨B, 4, none⟩ (.int .i64 0)).setCell ⟨B, 5, none⟩ (.int .i64 0)).setCell ⟨B, 9, none⟩ (.slice none 0 0)).setCell ⟨B, 10, none⟩ (.string ⟨#[]⟩))) := ((((Fr.refl (fun k => k = B) _).trans (set_fr (F := fun k => k = B) rfl)).trans (set_fr (F := fun k => k = B) rfl)).trans (set_fr (F := fun k => k = B) rfl)).trans (set_fr (F := fun k => k = B) rfl)
      have HZ : Hid (Below w.heap.size w ((((W.setCell ⟨B, 4, none⟩ (.int .i64 0)).setCell ⟨B, 5, none⟩ (.int .i64 0)).setCell ⟨B, 9, none⟩ (.slice none 0 0)).setCell ⟨B, 10, none⟩ (.string ⟨#[]⟩))) := Fr.bel (unhide HW) (unhide HF) (fun i hi => by omega) hsw
      have hsz := (unhide HZ).size
      generalize ((((W.setCell ⟨B, 4, none⟩ (.int .i64 0)).setCell ⟨B, 5, none⟩ (.int .i64 0)).setCell ⟨B, 9, none⟩ (.slice none 0 0)).setCell ⟨B, 10, none⟩ (.string ⟨#[]⟩)) = W2 at HX HY HZ hsz ⊢
      clear HB HC HW HF c0
      go_step
      refine wpList_load_mid rfl 27 _ rfl B 0 rfl (mcs ⟨⟨7, f, t, te, 0, 0, co, ok, es, [], ⟨#[]⟩⟩, ea, en, ec, none, 0, 0⟩) _ (unhide HX).range Tryz.underlying27 rfl rpc_size ?_
      simp only [Act.put, List.setIfInBounds_toArray, List.set_cons_zero, List.set_cons_succ]
      refine wpList_store_mid rfl 27 _ _ rfl (B + 1) 0 (mcs ⟨⟨7, f, t, te, 0, 0, co, ok, es, [], ⟨#[]⟩⟩, ea, en, ec, none, 0, 0⟩).toArray rfl rfl ((unhide HY).there _ (Nat.le_refl _)) rpc_size (mcs_all _) ?_
      simp only [Act.put]
      have HR := hide (World.rangeAt_setCells_same W2 (B + 1) 0 (mcs ⟨⟨7, f, t, te, 0, 0, co, ok, es, [], ⟨#[]⟩⟩, ea, en, ec, none, 0, 0⟩) ((unhide HY).there _ (Nat.le_refl _)))
      have HE : Hid (Below w.heap.size w (W2.setCells (B + 1) 0 (mcs ⟨⟨7, f, t, te, 0, 0, co, ok, es, [], ⟨#[]⟩⟩, ea, en, ec, none, 0, 0⟩))) := Fr.bel (unhide HZ) (setCells_fr (F := fun k => k = B + 1) (B + 1) rfl _ _ _) (fun i hi => by omega) hsz
      generalize W2.setCells (B + 1) 0 (mcs ⟨⟨7, f, t, te, 0, 0, co, ok, es, [], ⟨#[]⟩⟩, ea, en, ec, none, 0, 0⟩) = W3 at HR HE ⊢
      go_wp2
      refine bodyPost_ret (res_r (B := B + 1) (q := ⟨⟨7, f, t, te, 0, 0, co, ok, es, [], ⟨#[]⟩⟩, ea, en, ec, none, 0, 0⟩) rfl rfl (unhide HR)) rfl ?_
      exact ⟨rfl, unhide HE⟩
    · skip
      by_cases h1 : k = 1
      · subst h1
        rw [show bq ⟨⟨1, f, t, te, ix, lt, co, ok, es, ms, dt⟩, ea, en, ec, ma, mn, mcp⟩ = ⟨⟨1, f, t, te, 0, 0, co, ok, es, ms, dt⟩, ea, en, ec, ma, mn, mcp⟩ by rfl]
        go_enter Tryz.func40, Tryz.ntmps40
        go_upto_region 1 with fail
        change Code.wp _ _ _ _ ((w.alloc (.cells #[.int .i64 1, .int .i64 f, .int .i64 t, .int .i64 te, .int .i64 ix, .int .i64 lt, .int .i64 co, .bool ok, .slice ea en ec, .slice ma mn mcp, .string dt] 27)).alloc (.cells rz.toArray 27))
        rw [← hB]
        generalize (w.alloc (.cells #[.int .i64 1, .int .i64 f, .int .i64 t, .int .i64 te, .int .i64 ix, .int .i64 lt, .int .i64 co, .bool ok, .slice ea en ec, .slice ma mn mcp, .string dt] 27)).alloc (.cells rz.toArray 27) = W at HB HC HW ⊢
        have hBw : w.heap.size ≤ B := by omega
        have hsw := (unhide HW).size
        clear hB
        have c0 := (unhide HB).cell 0 _ rfl
        have c4 := (unhide HB).cell 4 _ rfl
        have f4 := (unhide HB).frz 4
        have c5 := (unhide HB).cell 5 _ rfl
        have f5 := (unhide HB).frz 5
        go_upto_region 14 with fail
        have HX : Hid (Bx ((W.setCell ⟨B, 4, none⟩ (.int .i64 0)).setCell ⟨B, 5, none⟩ (.int .i64 0)) B (mcs ⟨⟨1, f, t, te, 0, 0, co, ok, es, ms, dt⟩, ea, en, ec, ma, mn, mcp⟩) 27) := (((unhide HB).set 4 _ (by simp)).set 5 _ (by simp))
        have HY : Hid (Bx ((W.setCell ⟨B, 4, none⟩ (.int .i64 0)).setCell ⟨B, 5, none⟩ (.int .i64 0)) (B + 1) rz 27) := (((unhide HC).set_ne 4 _ (by omega)).set_ne 5 _ (by omega))
        have HF : Hid (Fr (fun k => k = B) W ((W.setCell ⟨B, 4, none⟩ (.int .i64 0)).setCell ⟨B, 5, none⟩ (.int .i64 0))) := ((Fr.refl (fun k => k = B) _).trans (set_fr (F := fun k => k = B) rfl)).trans (set_fr (F := fun k => k = B) rfl)
        have HZ : Hid (Below w.heap.size w ((W.setCell ⟨B, 4, none⟩ (.int .i64 0)).setCell ⟨B, 5, none⟩ (.int .i64 0))) := Fr.bel (unhide HW) (unhide HF) (fun i hi => by omega) hsw
        have hsz := (unhide HZ).size
        generalize ((W.setCell ⟨B, 4, none⟩ (.int .i64 0)).setCell ⟨B, 5, none⟩ (.int .i64 0)) = W2 at HX HY HZ hsz ⊢
        clear HB HC HW HF c0
        go_step
        refine wpList_load_mid rfl 27 _ rfl B 0 rfl (mcs ⟨⟨1, f, t, te, 0, 0, co, ok, es, ms, dt⟩, ea, en, ec, ma, mn, mcp⟩) _ (unhide HX).range Tryz.underlying27 rfl rpc_size ?_
        simp only [Act.put, List.setIfInBounds_toArray, List.set_cons_zero, List.set_cons_succ]
        refine wpList_store_mid rfl 27 _ _ rfl (B + 1) 0 (mcs ⟨⟨1, f, t, te, 0, 0, co, ok, es, ms, dt⟩, ea, en, ec, ma, mn, mcp⟩).toArray rfl rfl ((unhide HY).there _ (Nat.le_refl _)) rpc_size (mcs_all _) ?_
        simp only [Act.put]
        have HR := hide (World.rangeAt_setCells_same W2 (B + 1) 0 (mcs ⟨⟨1, f, t, te, 0, 0, co, ok, es, ms, dt⟩, ea, en, ec, ma, mn, mcp⟩) ((unhide HY).there _ (Nat.le_refl _)))
        have HE : Hid (Below w.heap.size w (W2.setCells (B + 1) 0 (mcs ⟨⟨1, f, t, te, 0, 0, co, ok, es, ms, dt⟩, ea, en, ec, ma, mn, mcp⟩))) := Fr.bel (unhide HZ) (setCells_fr (F := fun k => k = B + 1) (B + 1) rfl _ _ _) (fun i hi => by omega) hsz
        generalize W2.setCells (B + 1) 0 (mcs ⟨⟨1, f, t, te, 0, 0, co, ok, es, ms, dt⟩, ea, en, ec, ma, mn, mcp⟩) = W3 at HR HE ⊢
        go_wp2
        refine bodyPost_ret (res_r (B := B + 1) (q := ⟨⟨1, f, t, te, 0, 0, co, ok, es, ms, dt⟩, ea, en, ec, ma, mn, mcp⟩) rfl rfl (unhide HR)) rfl ?_
        exact ⟨rfl, unhide HE⟩
      · skip
        by_cases h3 : k = 3
        · subst h3
          rw [show bq ⟨⟨3, f, t, te, ix, lt, co, ok, es, ms, dt⟩, ea, en, ec, ma, mn, mcp⟩ = ⟨⟨3, f, t, te, 0, 0, co, ok, es, ms, dt⟩, ea, en, ec, ma, mn, mcp⟩ by rfl]
          go_enter Tryz.func40, Tryz.ntmps40
          go_upto_region 1 with fail
          change Code.wp _ _ _ _ ((w.alloc (.cells #[.int .i64 3, .int .i64 f, .int .i64 t, .int .i64 te, .int .i64 ix, .int .i64 lt, .int .i64 co, .bool ok, .slice ea en ec, .slice ma mn mcp, .string dt] 27)).alloc (.cells rz.toArray 27))
          rw [← hB]
          generalize (w.alloc (.cells #[.int .i64 3, .int .i64 f, .int .i64 t, .int .i64 te, .int .i64 ix, .int .i64 lt, .int .i64 co, .bool ok, .slice ea en ec, .slice ma mn mcp, .string dt] 27)).alloc (.cells rz.toArray 27) = W at HB HC HW ⊢
          have hBw : w.heap.size ≤ B := by omega
          have hsw := (unhide HW).size
          clear hB
          have c0 := (unhide HB).cell 0 _ rfl
          have c4 := (unhide HB).cell 4 _ rfl
          have f4 := (unhide HB).frz 4
          have c5 := (unhide HB).cell 5 _ rfl
          have f5 := (unhide HB).frz 5
          go_upto_region 14 with fail
          have HX : Hid (Bx ((W.setCell ⟨B, 4, none⟩ (.int .i64 0)).setCell ⟨B, 5, none⟩ (.int .i64 0)) B (mcs ⟨⟨3, f, t, te, 0, 0, co, ok, es, ms, dt⟩, ea, en, ec, ma, mn, mcp⟩) 27) := (((unhide HB).set 4 _ (by simp)).set 5 _ (by simp))
          have HY : Hid (Bx ((W.setCell ⟨B, 4, none⟩ (.int .i64 0)).setCell ⟨B, 5, none⟩ (.int .i64 0)) (B + 1) rz 27) := (((unhide HC).set_ne 4 _ (by omega)).set_ne 5 _ (by omega))
          have HF : Hid (Fr (fun k => k = B) W ((W.setCell ⟨B, 4, none⟩ (.int .i64 0)).setCell ⟨B, 5, none⟩ (.int .i64 0))) := ((Fr.refl (fun k => k = B) _).trans (set_fr (F := fun k => k = B) rfl)).trans (set_fr (F := fun k => k = B) rfl)
          have HZ : Hid (Below w.heap.size w ((W.setCell ⟨B, 4, none⟩ (.int .i64 0)).setCell ⟨B, 5, none⟩ (.int .i64 0))) := Fr.bel (unhide HW) (unhide HF) (fun i hi => by omega) hsw
          have hsz := (unhide HZ).size
          generalize ((W.setCell ⟨B, 4, none⟩ (.int .i64 0)).setCell ⟨B, 5, none⟩ (.int .i64 0)) = W2 at HX HY HZ hsz ⊢
          clear HB HC HW HF c0
          go_step
          refine wpList_load_mid rfl 27 _ rfl B 0 rfl (mcs ⟨⟨3, f, t, te, 0, 0, co, ok, es, ms, dt⟩, ea, en, ec, ma, mn, mcp⟩) _ (unhide HX).range Tryz.underlying27 rfl rpc_size ?_
          simp only [Act.put, List.setIfInBounds_toArray, List.set_cons_zero, List.set_cons_succ]
          refine wpList_store_mid rfl 27 _ _ rfl (B + 1) 0 (mcs ⟨⟨3, f, t, te, 0, 0, co, ok, es, ms, dt⟩, ea, en, ec, ma, mn, mcp⟩).toArray rfl rfl ((unhide HY).there _ (Nat.le_refl _)) rpc_size (mcs_all _) ?_
          simp only [Act.put]
          have HR := hide (World.rangeAt_setCells_same W2 (B + 1) 0 (mcs ⟨⟨3, f, t, te, 0, 0, co, ok, es, ms, dt⟩, ea, en, ec, ma, mn, mcp⟩) ((unhide HY).there _ (Nat.le_refl _)))
          have HE : Hid (Below w.heap.size w (W2.setCells (B + 1) 0 (mcs ⟨⟨3, f, t, te, 0, 0, co, ok, es, ms, dt⟩, ea, en, ec, ma, mn, mcp⟩))) := Fr.bel (unhide HZ) (setCells_fr (F := fun k => k = B + 1) (B + 1) rfl _ _ _) (fun i hi => by omega) hsz
          generalize W2.setCells (B + 1) 0 (mcs ⟨⟨3, f, t, te, 0, 0, co, ok, es, ms, dt⟩, ea, en, ec, ma, mn, mcp⟩) = W3 at HR HE ⊢
          go_wp2
          refine bodyPost_ret (res_r (B := B + 1) (q := ⟨⟨3, f, t, te, 0, 0, co, ok, es, ms, dt⟩, ea, en, ec, ma, mn, mcp⟩) rfl rfl (unhide HR)) rfl ?_
          exact ⟨rfl, unhide HE⟩
        · skip
          by_cases h6 : k = 6
          · subst h6
            rw [show bq ⟨⟨6, f, t, te, ix, lt, co, ok, es, ms, dt⟩, ea, en, ec, ma, mn, mcp⟩ = ⟨⟨6, f, t, te, 0, lt, co, false, es, ms, dt⟩, ea, en, ec, ma, mn, mcp⟩ by rfl]
            go_enter Tryz.func40, Tryz.ntmps40
            go_upto_region 1 with fail
            change Code.wp _ _ _ _ ((w.alloc (.cells #[.int .i64 6, .int .i64 f, .int .i64 t, .int .i64 te, .int .i64 ix, .int .i64 lt, .int .i64 co, .bool ok, .slice ea en ec, .slice ma mn mcp, .string dt] 27)).alloc (.cells rz.toArray 27))
            rw [← hB]
            generalize (w.alloc (.cells #[.int .i64 6, .int .i64 f, .int .i64 t, .int .i64 te, .int .i64 ix, .int .i64 lt, .int .i64 co, .bool ok, .slice ea en ec, .slice ma mn mcp, .string dt] 27)).alloc (.cells rz.toArray 27) = W at HB HC HW ⊢
            have hBw : w.heap.size ≤ B := by omega
            have hsw := (unhide HW).size
            clear hB
            have c0 := (unhide HB).cell 0 _ rfl
            have c4 := (unhide HB).cell 4 _ rfl
            have f4 := (unhide HB).frz 4
            have c7 := (unhide HB).cell 7 _ rfl
            have f7 := (unhide HB).frz 7
            go_upto_region 14 with fail
            have HX : Hid (Bx ((W.setCell ⟨B, 4, none⟩ (.int .i64 0)).setCell ⟨B, 7, none⟩ (.bool false)) B (mcs ⟨⟨6, f, t, te, 0, lt, co, false, es, ms, dt⟩, ea, en, ec, ma, mn, mcp⟩) 27) := (((unhide HB).set 4 _ (by simp)).set 7 _ (by simp))
            have HY : Hid (Bx ((W.setCell ⟨B, 4, none⟩ (.int .i64 0)).setCell ⟨B, 7, none⟩ (.bool false)) (B + 1) rz 27) := (((unhide HC).set_ne 4 _ (by omega)).set_ne 7 _ (by omega))
            have HF : Hid (Fr (fun k => k = B) W ((W.setCell ⟨B, 4, none⟩ (.int .i64 0)).setCell ⟨B, 7, none⟩ (.bool false))) := ((Fr.refl (fun k => k = B) _).trans (set_fr (F := fun k => k = B) rfl)).trans (set_fr (F := fun k => k = B) rfl)
            have HZ : Hid (Below w.heap.size w ((W.setCell ⟨B, 4, none⟩ (.int .i64 0)).setCell ⟨B, 7, none⟩ (.bool false))) := Fr.bel (unhide HW) (unhide HF) (fun i hi => by omega) hsw
            have hsz := (unhide HZ).size
            generalize ((W.setCell ⟨B, 4, none⟩ (.int .i64 0)).setCell ⟨B, 7, none⟩ (.bool false)) = W2 at HX HY HZ hsz ⊢
            clear HB HC HW HF c0
            go_step
            refine wpList_load_mid rfl 27 _ rfl B 0 rfl (mcs ⟨⟨6, f, t, te, 0, lt, co, false, es, ms, dt⟩, ea, en, ec, ma, mn, mcp⟩) _ (unhide HX).range Tryz.underlying27 rfl rpc_size ?_
            simp only [Act.put, List.setIfInBounds_toArray, List.set_cons_zero, List.set_cons_succ]
            refine wpList_store_mid rfl 27 _ _ rfl (B + 1) 0 (mcs ⟨⟨6, f, t, te, 0, lt, co, false, es, ms, dt⟩, ea, en, ec, ma, mn, mcp⟩).toArray rfl rfl ((unhide HY).there _ (Nat.le_refl _)) rpc_size (mcs_all _) ?_
            simp only [Act.put]
            have HR := hide (World.rangeAt_setCells_same W2 (B + 1) 0 (mcs ⟨⟨6, f, t, te, 0, lt, co, false, es, ms, dt⟩, ea, en, ec, ma, mn, mcp⟩) ((unhide HY).there _ (Nat.le_refl _)))
            have HE : Hid (Below w.heap.size w (W2.setCells (B + 1) 0 (mcs ⟨⟨6, f, t, te, 0, lt, co, false, es, ms, dt⟩, ea, en, ec, ma, mn, mcp⟩))) := Fr.bel (unhide HZ) (setCells_fr (F := fun k => k = B + 1) (B + 1) rfl _ _ _) (fun i hi => by omega) hsz
            generalize W2.setCells (B + 1) 0 (mcs ⟨⟨6, f, t, te, 0, lt, co, false, es, ms, dt⟩, ea, en, ec, ma, mn, mcp⟩) = W3 at HR HE ⊢
            go_wp2
            refine bodyPost_ret (res_r (B := B + 1) (q := ⟨⟨6, f, t, te, 0, lt, co, false, es, ms, dt⟩, ea, en, ec, ma, mn, mcp⟩) rfl rfl (unhide HR)) rfl ?_
            exact ⟨rfl, unhide HE⟩
          · skip
            by_cases h2 : k = 2
            · subst h2
              rw [show bq ⟨⟨2, f, t, te, ix, lt, co, ok, es, ms, dt⟩, ea, en, ec, ma, mn, mcp⟩ = ⟨⟨2, f, t, te, ix, lt, co, false, es, ms, dt⟩, ea, en, ec, ma, mn, mcp⟩ by rfl]
              go_enter Tryz.func40, Tryz.ntmps40
              go_upto_region 1 with fail
              change Code.wp _ _ _ _ ((w.alloc (.cells #[.int .i64 2, .int .i64 f, .int .i64 t, .int .i64 te, .int .i64 ix, .int .i64 lt, .int .i64 co, .bool ok, .slice ea en ec, .slice ma mn mcp, .string dt] 27)).alloc (.cells rz.toArray 27))
              rw [← hB]
              generalize (w.alloc (.cells #[.int .i64 2, .int .i64 f, .int .i64 t, .int .i64 te, .int .i64 ix, .int .i64 lt, .int .i64 co, .bool ok, .slice ea en ec, .slice ma mn mcp, .string dt] 27)).alloc (.cells rz.toArray 27) = W at HB HC HW ⊢
              have hBw : w.heap.size ≤ B := by omega
              have hsw := (unhide HW).size
              clear hB
              have c0 := (unhide HB).cell 0 _ rfl
              have c7 := (unhide HB).cell 7 _ rfl
              have f7 := (unhide HB).frz 7
              go_upto_region 14 with fail
              have HX : Hid (Bx (W.setCell ⟨B, 7, none⟩ (.bool false)) B (mcs ⟨⟨2, f, t, te, ix, lt, co, false, es, ms, dt⟩, ea, en, ec, ma, mn, mcp⟩) 27) := ((unhide HB).set 7 _ (by simp))
              have HY : Hid (Bx (W.setCell ⟨B, 7, none⟩ (.bool false)) (B + 1) rz 27) := ((unhide HC).set_ne 7 _ (by omega))
              have HF : Hid (Fr (fun k => k = B) W (W.setCell ⟨B, 7, none⟩ (.bool false))) := (Fr.refl (fun k => k = B) _).trans (set_fr (F := fun k => k = B) rfl)
              have HZ : Hid (Below w.heap.size w (W.setCell ⟨B, 7, none⟩ (.bool false))) := Fr.bel (unhide HW) (unhide HF) (fun i hi => by omega) hsw
              have hsz := (unhide HZ).size
              generalize (W.setCell ⟨B, 7, none⟩ (.bool false)) = W2 at HX HY HZ hsz ⊢
              clear HB HC HW HF c0
              go_step
              refine wpList_load_mid rfl 27 _ rfl B 0 rfl (mcs ⟨⟨2, f, t, te, ix, lt, co, false, es, ms, dt⟩, ea, en, ec, ma, mn, mcp⟩) _ (unhide HX).range Tryz.underlying27 rfl rpc_size ?_
              simp only [Act.put, List.setIfInBounds_toArray, List.set_cons_zero, List.set_cons_succ]
              refine wpList_store_mid rfl 27 _ _ rfl (B + 1) 0 (mcs ⟨⟨2, f, t, te, ix, lt, co, false, es, ms, dt⟩, ea, en, ec, ma, mn, mcp⟩).toArray rfl rfl ((unhide HY).there _ (Nat.le_refl _)) rpc_size (mcs_all _) ?_
              simp only [Act.put]
              have HR := hide (World.rangeAt_setCells_same W2 (B + 1) 0 (mcs ⟨⟨2, f, t, te, ix, lt, co, false, es, ms, dt⟩, ea, en, ec, ma, mn, mcp⟩) ((unhide HY).there _ (Nat.le_refl _)))
              have HE : Hid (Below w.heap.size w (W2.setCells (B + 1) 0 (mcs ⟨⟨2, f, t, te, ix, lt, co, false, es, ms, dt⟩, ea, en, ec, ma, mn, mcp⟩))) := Fr.bel (unhide HZ) (setCells_fr (F := fun k => k = B + 1) (B + 1) rfl _ _ _) (fun i hi => by omega) hsz
              generalize W2.setCells (B + 1) 0 (mcs ⟨⟨2, f, t, te, ix, lt, co, false, es, ms, dt⟩, ea, en, ec, ma, mn, mcp⟩) = W3 at HR HE ⊢
              go_wp2
              refine bodyPost_ret (res_r (B := B + 1) (q := ⟨⟨2, f, t, te, ix, lt, co, false, es, ms, dt⟩, ea, en, ec, ma, mn, mcp⟩) rfl rfl (unhide HR)) rfl ?_
              exact ⟨rfl, unhide HE⟩
            · skip
              by_cases h4 : k = 4
              · subst h4
                rw [show bq ⟨⟨4, f, t, te, ix, lt, co, ok, es, ms, dt⟩, ea, en, ec, ma, mn, mcp⟩ = ⟨⟨4, f, t, te, ix, lt, co, false, es, ms, dt⟩, ea, en, ec, ma, mn, mcp⟩ by rfl]
                go_enter Tryz.func40, Tryz.ntmps40
                go_upto_region 1 with fail
                change Code.wp _ _ _ _ ((w.alloc (.cells #[.int .i64 4, .int .i64 f, .int .i64 t, .int .i64 te, .int .i64 ix, .int .i64 lt, .int .i64 co, .bool ok, .slice ea en ec, .slice ma mn mcp, .string dt] 27)).alloc (.cells rz.toArray 27))
                rw [← hB]
                generalize (w.alloc (.cells #[.int .i64 4, .int .i64 f, .int .i64 t, .int .i64 te, .int .i64 ix, .int .i64 lt, .int .i64 co, .bool ok, .slice ea en ec, .slice ma mn mcp, .string dt] 27)).alloc (.cells rz.toArray 27) = W at HB HC HW ⊢
                have hBw : w.heap.size ≤ B := by omega
                have hsw := (unhide HW).size
                clear hB
                have c0 := (unhide HB).cell 0 _ rfl
                have c7 := (unhide HB).cell 7 _ rfl
                have f7 := (unhide HB).frz 7
                go_upto_region 14 with fail
                have HX : Hid (Bx (W.setCell ⟨B, 7, none⟩ (.bool false)) B (mcs ⟨⟨4, f, t, te, ix, lt, co, false, es, ms, dt⟩, ea, en, ec, ma, mn, mcp⟩) 27) := ((unhide HB).set 7 _ (by simp))
                have HY : Hid (Bx (W.setCell ⟨B, 7, none⟩ (.bool false)) (B + 1) rz 27) := ((unhide HC).set_ne 7 _ (by omega))
                have HF : Hid (Fr (fun k => k = B) W (W.setCell ⟨B, 7, none⟩ (.bool false))) := (Fr.refl (fun k => k = B) _).trans (set_fr (F := fun k => k = B) rfl)
                have HZ : Hid (Below w.heap.size w (W.setCell ⟨B, 7, none⟩ (.bool false))) := Fr.bel (unhide HW) (unhide HF) (fun i hi => by omega) hsw
                have hsz := (unhide HZ).size
                generalize (W.setCell ⟨B, 7, none⟩ (.bool false)) = W2 at HX HY HZ hsz ⊢
                clear HB HC HW HF c0
                go_step
                refine wpList_load_mid rfl 27 _ rfl B 0 rfl (mcs ⟨⟨4, f, t, te, ix, lt, co, false, es, ms, dt⟩, ea, en, ec, ma, mn, mcp⟩) _ (unhide HX).range Tryz.underlying27 rfl rpc_size ?_
                simp only [Act.put, List.setIfInBounds_toArray, List.set_cons_zero, List.set_cons_succ]
                refine wpList_store_mid rfl 27 _ _ rfl (B + 1) 0 (mcs ⟨⟨4, f, t, te, ix, lt, co, false, es, ms, dt⟩, ea, en, ec, ma, mn, mcp⟩).toArray rfl rfl ((unhide HY).there _ (Nat.le_refl _)) rpc_size (mcs_all _) ?_
                simp only [Act.put]
                have HR := hide (World.rangeAt_setCells_same W2 (B + 1) 0 (mcs ⟨⟨4, f, t, te, ix, lt, co, false, es, ms, dt⟩, ea, en, ec, ma, mn, mcp⟩) ((unhide HY).there _ (Nat.le_refl _)))
                have HE : Hid (Below w.heap.size w (W2.setCells (B + 1) 0 (mcs ⟨⟨4, f, t, te, ix, lt, co, false, es, ms, dt⟩, ea, en, ec, ma, mn, mcp⟩))) := Fr.bel (unhide HZ) (setCells_fr (F := fun k => k = B + 1) (B + 1) rfl _ _ _) (fun i hi => by omega) hsz
                generalize W2.setCells (B + 1) 0 (mcs ⟨⟨4, f, t, te, ix, lt, co, false, es, ms, dt⟩, ea, en, ec, ma, mn, mcp⟩) = W3 at HR HE ⊢
                go_wp2
                refine bodyPost_ret (res_r (B := B + 1) (q := ⟨⟨4, f, t, te, ix, lt, co, false, es, ms, dt⟩, ea, en, ec, ma, mn, mcp⟩) rfl rfl (unhide HR)) rfl ?_
                exact ⟨rfl, unhide HE⟩
              · skip
                rw [show bq ⟨⟨k, f, t, te, ix, lt, co, ok, es, ms, dt⟩, ea, en, ec, ma, mn, mcp⟩ = ⟨⟨k, f, t, te, ix, lt, co, ok, es, ms, dt⟩, ea, en, ec, ma, mn, mcp⟩ by unfold bq bsd; dsimp only; rw [if_neg h5, if_neg h7, if_neg h5, if_neg h7, if_neg (by omega), if_neg h6, if_neg (by omega)]]
                go_enter Tryz.func40, Tryz.ntmps40
                go_upto_region 1 with fail
                change Code.wp _ _ _ _ ((w.alloc (.cells #[.int .i64 k, .int .i64 f, .int .i64 t, .int .i64 te, .int .i64 ix, .int .i64 lt, .int .i64 co, .bool ok, .slice ea en ec, .slice ma mn mcp, .string dt] 27)).alloc (.cells rz.toArray 27))
                rw [← hB]
                generalize (w.alloc (.cells #[.int .i64 k, .int .i64 f, .int .i64 t, .int .i64 te, .int .i64 ix, .int .i64 lt, .int .i64 co, .bool ok, .slice ea en ec, .slice ma mn mcp, .string dt] 27)).alloc (.cells rz.toArray 27) = W at HB HC HW ⊢
                have hBw : w.heap.size ≤ B := by omega
                have hsw := (unhide HW).size
                clear hB
                have c0 := (unhide HB).cell 0 _ rfl
                go_upto_region 14 with fail
                have HX : Hid (Bx W B (mcs ⟨⟨k, f, t, te, ix, lt, co, ok, es, ms, dt⟩, ea, en, ec, ma, mn, mcp⟩) 27) := (unhide HB)
                have HY : Hid (Bx W (B + 1) rz 27) := (unhide HC)
                have HF : Hid (Fr (fun k => k = B) W W) := Fr.refl (fun k => k = B) _
                have HZ : Hid (Below w.heap.size w W) := Fr.bel (unhide HW) (unhide HF) (fun i hi => by omega) hsw
                have hsz := (unhide HZ).size
                obtain ⟨W2, hW2⟩ : ∃ W2, W2 = W := ⟨_, rfl⟩
                rw [← hW2] at HX HY HZ hsz ⊢
                clear HB HC HW HF c0
                go_step
                refine wpList_load_mid rfl 27 _ rfl B 0 rfl (mcs ⟨⟨k, f, t, te, ix, lt, co, ok, es, ms, dt⟩, ea, en, ec, ma, mn, mcp⟩) _ (unhide HX).range Tryz.underlying27 rfl rpc_size ?_
                simp only [Act.put, List.setIfInBounds_toArray, List.set_cons_zero, List.set_cons_succ]
                refine wpList_store_mid rfl 27 _ _ rfl (B + 1) 0 (mcs ⟨⟨k, f, t, te, ix, lt, co, ok, es, ms, dt⟩, ea, en, ec, ma, mn, mcp⟩).toArray rfl rfl ((unhide HY).there _ (Nat.le_refl _)) rpc_size (mcs_all _) ?_
                simp only [Act.put]
                have HR := hide (World.rangeAt_setCells_same W2 (B + 1) 0 (mcs ⟨⟨k, f, t, te, ix, lt, co, ok, es, ms, dt⟩, ea, en, ec, ma, mn, mcp⟩) ((unhide HY).there _ (Nat.le_refl _)))
                have HE : Hid (Below w.heap.size w (W2.setCells (B + 1) 0 (mcs ⟨⟨k, f, t, te, ix, lt, co, ok, es, ms, dt⟩, ea, en, ec, ma, mn, mcp⟩))) := Fr.bel (unhide HZ) (setCells_fr (F := fun k => k = B + 1) (B + 1) rfl _ _ _) (fun i hi => by omega) hsz
                generalize W2.setCells (B + 1) 0 (mcs ⟨⟨k, f, t, te, ix, lt, co, ok, es, ms, dt⟩, ea, en, ec, ma, mn, mcp⟩) = W3 at HR HE ⊢
                go_wp2
                refine bodyPost_ret (res_r (B := B + 1) (q := ⟨⟨k, f, t, te, ix, lt, co, ok, es, ms, dt⟩, ea, en, ec, ma, mn, mcp⟩) rfl rfl (unhide HR)) rfl ?_
                exact ⟨rfl, unhide HE⟩
/-- an error of a message that may not be, or none -/
def er (b : Bool) : Int := match b with | true => 0 | false => 1
def CkE (w : World) (b : Bool) (E : Value) : Prop := (b = true ∧ E = .nilIface) ∨ (b = false ∧ ∃ t x, E = .iface t x ∧ ∃ d, d ≤ 1 ∧ Er w d E 1)
theorem CkE.below {w w' : World} {b : Bool} {E : Value} (h : CkE w b E) (hb : Below w.heap.size w w') : CkE w' b E := by
  rcases h with h | ⟨h, t, x, e, d, hd, h2⟩
  · exact .inl h
  · exact .inr ⟨h, t, x, e, d, hd, h2.below hb⟩
def CkR (b : Bool) (e : Ending) (w w' : World) : Prop := ∃ E, e = .returned E ∧ Hid (CkE w' b E) ∧ Hid (Below w.heap.size w w')
theorem cke_nil (w : World) : CkE w true .nilIface := .inl ⟨rfl, rfl⟩
theorem cke_raw (w : World) : CkE w false (.iface 61 (.int .i64 1)) := .inr ⟨rfl, _, _, rfl, 0, by omega, rfl⟩
set_option maxHeartbeats 1000000 in
theorem chkMems_any (ao : Option Addr) (n cap : Nat) (m : List Int) (w : World) (h : Ls w ao n cap m) :
    Calls Tryz.prog 53 #[.slice ao n cap] w fun e w' => CkR (memB m) e w w' := by
  have hl := h.1
  by_cases h0 : n = 0
  · subst h0
    rw [show memB m = false by unfold memB; rw [hl]; rfl]
    clear h hl
    go_enter Tryz.func53, Tryz.ntmps53
    go_wp2
    go_ret
    exact ⟨_, rfl, cke_raw _, Below.refl _ _⟩
  · have h0i : ¬ (n : Int) = 0 := by omega
    have hm : memB m = decide (Mem m) := by unfold memB; rw [hl]; simp [h0]
    have HM := hide hm
    have HC := hide (chk_any ao n cap m w h)
    clear h hl hm
    go_enter Tryz.func53, Tryz.ntmps53
    go_wp2_with fail
    refine (unhide HC).mono ?_
    rintro e w2 (⟨hM, rfl, hw⟩ | ⟨hM, x, rfl, hE, hb⟩)
    · obtain rfl := hw.symm
      have HM2 : Hid (memB m = true) := (unhide HM).trans (decide_eq_true hM)
      clear hM
      go_wp2
      go_ret
      exact ⟨_, rfl, by rw [unhide HM2]; exact cke_nil _, Below.refl _ _⟩
    · have HM2 : Hid (memB m = false) := (unhide HM).trans (decide_eq_false hM)
      have HE : Hid (CkE w2 false (.iface 64 x)) := by
        obtain ⟨g, h2, h3⟩ := hE
        exact .inr ⟨rfl, _, _, rfl, 1, by omega, g, _, h2, h3, rfl⟩
      have HB := hide hb
      clear hM hE hb
      go_wp2
      go_ret
      exact ⟨_, rfl, by rw [unhide HM2]; exact unhide HE, HB⟩
set_option maxHeartbeats 1000000 in
theorem chkConf_any (i t k : Int) (s : ByteArray) (w : World) (hs : s.size ≤ 4096) :
    Calls Tryz.prog 52 #[.agg #[.int .i64 i, .int .i64 t, .int .i64 k, .string s]] w fun e w' => CkR (confB (i, t, k, s)) e w w' := by
  by_cases h2 : k = 2
  · subst h2
    rw [show confB (i, t, 2, s) = memB (sb s) from rfl]
    have HA : Hid (Below w.heap.size w (w.alloc (.cells #[.int .i64 i, .int .i64 t, .int .i64 2, .string s] 56))) := al_below _ _
    go_enter Tryz.func52, Tryz.ntmps52
    go_wp2_with fail
    refine (par_any s _ (by omega)).mono ?_
    rintro e w2 (⟨hM, ao, n, cap, rfl, hO, hb⟩ | ⟨hM, x, rfl, hE, hb⟩)
    · have HB : Hid (Below w.heap.size w w2) := bnx (unhide HA) hb
      have HC := hide (chkMems_any ao n cap (sb s) w2 hO.ls)
      clear hM hO hb
      go_wp2_with fail
      refine (unhide HC).mono ?_
      rintro e w3 ⟨E, rfl, HE, HB3⟩
      have HB4 : Hid (Below w.heap.size w w3) := bnx (unhide HB) (unhide HB3)
      go_wp2
      go_ret
      exact ⟨_, rfl, HE, HB4⟩
    · have HM2 : Hid (memB (sb s) = false) := by show _ = _; unfold memB; rw [decide_eq_false hM]; simp
      have HB : Hid (Below w.heap.size w w2) := bnx (unhide HA) hb
      have HE : Hid (CkE w2 false (.iface 64 x)) := by
        obtain ⟨g, h2, h3⟩ := hE
        exact .inr ⟨rfl, _, _, rfl, 1, by omega, g, _, h2, h3, rfl⟩
      clear hM hE hb
      go_wp2
      go_ret
      exact ⟨_, rfl, by rw [unhide HM2]; exact unhide HE, HB⟩
  · rw [show confB (i, t, k, s) = true by unfold confB; dsimp only; rw [if_neg h2]]
    go_enter Tryz.func52, Tryz.ntmps52
    go_wp2
    go_ret
    exact ⟨_, rfl, cke_nil _, al_below _ _⟩
theorem mgd0 {es : List En} (hl : es.length ≤ 16) (hg : GoOn 0 0 es) : (mgdR ⟨0, 0, []⟩ es).1 = 0 := by
  by_cases h0 : es.length = 0
  · rw [mgdR_all (fun j hj => by omega)]
  · have hn : ¬ There ⟨0, 0, []⟩ (en0 es 0) := by
      have h1 := (hg 0 (by omega)).1
      unfold There termAt lastI
      rw [if_pos (.inr (by rw [h1]; simp))]
      intro h; cases h
    have h1 : (en0 es 0).1 = 1 := (hg 0 (by omega)).1
    rw [mgdR_off (by omega) (fun j hj => by omega) hn, h1]
    unfold splR
    dsimp only
    rw [if_neg (by simp; omega), if_pos ⟨(⟨by decide, by decide, by decide, by decide⟩ : IsBase 0 0), by simp; omega, by simpa using hg⟩]
/-- in an empty log nothing but what goes on is wrong -/
theorem mrg0 {p u : Int} {es : List En} (hl : es.length ≤ 16) (hp : InN p) (hu : InN u) : (mrgR ⟨0, 0, []⟩ p u es).1 = if GoOn p u es then 0 else 1 := by
  have h0 : May ⟨0, 0, []⟩ := ⟨⟨by decide, by decide, by decide, by decide⟩, by simp, fun k hk => absurd hk (Nat.not_lt_zero k)⟩
  by_cases hg : GoOn p u es
  · rw [if_pos hg]
    have hm : MayMg p u es := ⟨hp.1, by have := hp.2; omega, ⟨hu.1, by have := hu.2; omega⟩, hg⟩
    have hmp : mP ⟨0, 0, []⟩ p = p := by unfold mP; rw [if_neg (by have := hp.1; dsimp only; omega)]
    have hmu : mU ⟨0, 0, []⟩ p u = u := by unfold mU; rw [if_neg (by have := hp.1; dsimp only; omega)]
    have hme : mE ⟨0, 0, []⟩ p es = es := by unfold mE; rw [if_neg (by have := hp.1; dsimp only; omega)]
    by_cases ht : termAt ⟨0, 0, []⟩ (mP ⟨0, 0, []⟩ p) = some (mU ⟨0, 0, []⟩ p u)
    · rw [mrgR_has ⟨h0, hm⟩ ht, hme]
      rw [hmp, hmu] at ht
      obtain ⟨rfl, rfl⟩ : p = 0 ∧ u = 0 := by
        unfold termAt lastI at ht
        dsimp only at ht
        split at ht
        · cases ht
        · rename_i h
          have : p = 0 := by simp at h; have := hp.1; omega
          subst this
          have := Option.some.inj ht
          exact ⟨rfl, by rw [← this]; rfl⟩
      exact mgd0 hl hg
    · rw [mrgR_miss ⟨h0, hm⟩ ht]
  · rw [if_neg hg]
    exact congrArg Prod.fst (mrgR_bad (fun h => hg h.2.2.2.2))
theorem ens_conf {w : World} {ao : Option Addr} {n cap : Nat} {l : List En} (h : Es w ao n cap l) {k : Nat} (hk : k < n) : ∃ b off, ao = some ⟨b, off, none⟩ ∧ w.cell? ⟨b, off + k * 4, none⟩ = some (.int .i64 (en0 l k).1) ∧ w.cell? ⟨b, off + k * 4 + 1, none⟩ = some (.int .i64 (en0 l k).2.1) ∧ w.cell? ⟨b, off + k * 4 + 2, none⟩ = some (.int .i64 (en0 l k).2.2.1) ∧ w.cell? ⟨b, off + k * 4 + 3, none⟩ = some (.string (en0 l k).2.2.2) := by
  obtain ⟨h1, h2, h3, h4, h5⟩ := h
  rcases h5 with h5 | ⟨b, off, e, hc⟩
  · omega
  · exact ⟨b, off, e, hc k (by omega)⟩
theorem all_conf {l : List En} (h : ∀ j, j < l.length → confB (en0 l j) = true) : l.all confB = true := by
  rw [List.all_eq_true]
  intro e he
  obtain ⟨j, hj, rfl⟩ := List.mem_iff_getElem.1 he
  rw [← en0_get l j hj]
  exact h j hj
theorem not_conf {l : List En} {j : Nat} (hj : j < l.length) (h : confB (en0 l j) = false) : l.all confB = false := by
  rw [List.all_eq_false]
  exact ⟨l[j], List.getElem_mem hj, by rw [← en0_get l j hj, h]; simp⟩
set_option maxHeartbeats 4000000 in
theorem chkEnts_any (k f t te ix lt co : Int) (ok : Bool) (ea ma : Option Addr) (en ec mn mcp : Nat) (es : List En) (ms : List Int) (dt : ByteArray) (w : World) (hi : InN ix) (hl : InN lt) (h : Es w ea en ec es) :
    Calls Tryz.prog 41 #[.agg #[.int .i64 k, .int .i64 f, .int .i64 t, .int .i64 te, .int .i64 ix, .int .i64 lt, .int .i64 co, .bool ok, .slice ea en ec, .slice ma mn mcp, .string dt]] w fun e w' => CkR (entB ⟨k, f, t, te, ix, lt, co, ok, es, ms, dt⟩) e w w' := by
  have hlen := h.1
  have HL := hide h.1
  by_cases h16 : en ≤ 16
  · have h16i : ¬ (16 : Int) < (en : Int) := by omega
    obtain ⟨d, hd⟩ : ∃ d, d = decide (GoOn ix lt es) := ⟨_, rfl⟩
    have HEB : Hid (entB ⟨k, f, t, te, ix, lt, co, ok, es, ms, dt⟩ = (d && es.all confB)) := by show _ = _; unfold entB; dsimp only; rw [hlen, decide_eq_true h16, hd]; simp
    have HRR : Hid ((mrgR ⟨0, 0, []⟩ ix lt es).1 = if GoOn ix lt es then 0 else 1) := mrg0 (by rw [hlen]; exact h16) hi hl
    have HD := hide hd
    obtain ⟨B, hB⟩ : ∃ B, B = w.heap.size := ⟨_, rfl⟩
    have HB : Hid (Bx (w.alloc (.cells #[.int .i64 k, .int .i64 f, .int .i64 t, .int .i64 te, .int .i64 ix, .int .i64 lt, .int .i64 co, .bool ok, .slice ea en ec, .slice ma mn mcp, .string dt] 27)) B [.int .i64 k, .int .i64 f, .int .i64 t, .int .i64 te, .int .i64 ix, .int .i64 lt, .int .i64 co, .bool ok, .slice ea en ec, .slice ma mn mcp, .string dt] 27) := Bx.new w [.int .i64 k, .int .i64 f, .int .i64 t, .int .i64 te, .int .i64 ix, .int .i64 lt, .int .i64 co, .bool ok, .slice ea en ec, .slice ma mn mcp, .string dt] 27 B hB
    have HW : Hid (Below w.heap.size w (w.alloc (.cells #[.int .i64 k, .int .i64 f, .int .i64 t, .int .i64 te, .int .i64 ix, .int .i64 lt, .int .i64 co, .bool ok, .slice ea en ec, .slice ma mn mcp, .string dt] 27))) := al_below _ _
    have HE := hide (h.below (unhide HW))
    have HM := hide (mrgE_any 0 0 ix lt none 0 0 [] ea en ec es (w.alloc (.cells #[.int .i64 k, .int .i64 f, .int .i64 t, .int .i64 te, .int .i64 ix, .int .i64 lt, .int .i64 co, .bool ok, .slice ea en ec, .slice ma mn mcp, .string dt] 27)) ⟨rfl, Nat.le_refl _, ⟨by decide, fun _ => rfl⟩, by decide, .inl rfl⟩ (unhide HE))
    clear h hd hlen
    go_enter Tryz.func41, Tryz.ntmps41
    go_upto_region 1 with fail
    change Code.wp _ _ _ _ (w.alloc (.cells #[.int .i64 k, .int .i64 f, .int .i64 t, .int .i64 te, .int .i64 ix, .int .i64 lt, .int .i64 co, .bool ok, .slice ea en ec, .slice ma mn mcp, .string dt] 27))
    rw [← hB]
    generalize w.alloc (.cells #[.int .i64 k, .int .i64 f, .int .i64 t, .int .i64 te, .int .i64 ix, .int .i64 lt, .int .i64 co, .bool ok, .slice ea en ec, .slice ma mn mcp, .string dt] 27) = W at HB HW HE HM ⊢
    clear hB
    have c4 := (unhide HB).cell 4 _ rfl
    have c5 := (unhide HB).cell 5 _ rfl
    have c8 := (unhide HB).cell 8 _ rfl
    go_wp2_with fail
    refine (unhide HM).mono ?_
    obtain ⟨rr, hrr⟩ : ∃ rr, rr = mrgR ⟨0, 0, []⟩ ix lt es := ⟨_, rfl⟩
    rw [← hrr] at HRR
    rw [← hrr]
    rintro e w2 ⟨⟨E, ao, n', c', rfl, HO, HER⟩, HB2⟩
    have HW2 : Hid (Below w.heap.size w w2) := bnx (unhide HW) (unhide HB2)
    have HE2 := hide ((unhide HE).below (unhide HB2))
    have HBx2 := hide ((unhide HB).below (unhide HB2))
    clear hrr HM HO HB HW HE HB2 c4 c5 c8
    have HW3 : Hid (Below w.heap.size w (w2.alloc (.cells #[.int .i64 rr.2.2.b, .int .i64 rr.2.2.t, .slice ao n' c'] 85))) := bnx (unhide HW2) (al_below _ _)
    have HE3 := hide ((unhide HE2).below (al_below w2 (.cells #[.int .i64 rr.2.2.b, .int .i64 rr.2.2.t, .slice ao n' c'] 85)))
    have HBx3 := hide ((unhide HBx2).below (al_below w2 (.cells #[.int .i64 rr.2.2.b, .int .i64 rr.2.2.t, .slice ao n' c'] 85)))
    have HER3 := hide ((unhide HER).below (al_below w2 (.cells #[.int .i64 rr.2.2.b, .int .i64 rr.2.2.t, .slice ao n' c'] 85)))
    cases d
    · have hg : ¬ GoOn ix lt es := of_decide_eq_false (unhide HD).symm
      rw [if_neg hg] at HRR
      have HF : Hid (entB ⟨k, f, t, te, ix, lt, co, ok, es, ms, dt⟩ = false) := unhide HEB
      rw [unhide HRR] at HER3
      rcases unhide HER3 with ⟨h1, _⟩ | ⟨_, g, _, rfl, hg2⟩
      · cases h1
      have HG2 := hide hg2
      clear hg2 hg HEB HRR HER HER3 HBx2 HBx3 HE2 HE3 HW2
      go_wp2
      go_ret
      exact ⟨_, rfl, by rw [unhide HF]; exact .inr ⟨rfl, _, _, rfl, 1, by omega, g, _, rfl, unhide HG2, rfl⟩, HW3⟩
    · have HG := hide (p := GoOn ix lt es) (of_decide_eq_true (unhide HD).symm)
      rw [if_pos (unhide HG)] at HRR
      rw [unhide HRR] at HER3
      obtain rfl : E = .nilIface := by
        rcases unhide HER3 with ⟨_, h1⟩ | ⟨h1, _⟩
        · exact h1
        · exact absurd rfl h1
      have HEB2 : Hid (entB ⟨k, f, t, te, ix, lt, co, ok, es, ms, dt⟩ = es.all confB) := by show _ = _; rw [unhide HEB]; rfl
      have c8 := (unhide HBx3).cell 8 _ rfl
      clear HEB HRR HER HER3 HBx2 HE2 HW2
      go_wp2
      generalize w2.alloc (.cells #[.int .i64 rr.2.2.b, .int .i64 rr.2.2.t, .slice ao n' c'] 85) = w3 at HW3 HE3 HBx3 c8 ⊢
      go_loopw [32] (fun i wr => ∃ j : Nat, j ≤ en ∧ i = .int .i64 j ∧ Hid (∀ i, i < j → confB (en0 es i) = true) ∧ Hid (Below w.heap.size w wr) ∧ Hid (Es wr ea en ec es)) (fun i _ => en - (intOf i).toNat)
      case atStart => exact ⟨0, Nat.zero_le _, rfl, fun i hi => absurd hi (Nat.not_lt_zero i), HW3, HE3⟩
      case round =>
        obtain ⟨j, hj, rfl, HALL, HWr, HEr⟩ := hrel
        by_cases hlt : j < en
        · obtain ⟨b, off, rfl, q0, q1, q2, q3⟩ := ens_conf (unhide HEr) hlt
          have hsz := (unhide HG j (by rw [unhide HL]; exact hlt)).2.2.2.2.2.2.2
          have HNO := hide (fun (h : confB (en0 es j) = false) => not_conf (by rw [unhide HL]; exact hlt) h)
          have HST := hide (fun (h : confB (en0 es j) = true) => fun i (hi : i < j + 1) => by
            rcases Nat.lt_succ_iff_lt_or_eq.1 hi with h1 | h1
            · exact unhide HALL i h1
            · rw [h1]; exact h)
          obtain ⟨x, y, z, s, hp⟩ : ∃ x y z s, en0 es j = (x, y, z, s) := ⟨_, _, _, _, rfl⟩
          rw [hp] at q0 q1 q2 q3 hsz HNO HST
          dsimp only at q0 q1 q2 q3 hsz
          clear hp
          have HA := hide (al_below wr (.cells #[.int .i64 x, .int .i64 y, .int .i64 z, .string s] 56))
          go_wp2_with fail
          refine (chkConf_any x y z s _ hsz).mono ?_
          rintro e w5 ⟨E, rfl, HCE, HB5⟩
          have HE5 := hide (((unhide HEr).below (unhide HA)).below (unhide HB5))
          have HW5 : Hid (Below w.heap.size w w5) := bnx (bnx (unhide HWr) (unhide HA)) (unhide HB5)
          clear q0 q1 q2 q3 HA HB5 HEr HWr
          obtain ⟨cb, hcb⟩ : ∃ cb, cb = confB (x, y, z, s) := ⟨_, rfl⟩
          rw [← hcb] at HCE HNO HST
          clear hcb
          rcases unhide HCE with ⟨h1, rfl⟩ | ⟨h1, t', x', rfl, hd⟩
          · have HST2 := hide (unhide HST h1)
            clear h1 HCE HST HNO HALL
            go_wp2
            go_roundw
            case rel => exact ⟨j + 1, by omega, by go_num, HST2, HW5, HE5⟩
            case measure => simp [intOf]; omega
          · have HNO2 := hide (unhide HNO h1)
            have HDD := hide hd
            clear h1 hd HCE HST HNO HALL
            go_wp2
            go_ret
            exact ⟨_, rfl, by rw [unhide HEB2, unhide HNO2]; exact .inr ⟨rfl, _, _, rfl, unhide HDD⟩, HW5⟩
        · have HTR : Hid (es.all confB = true) := all_conf (fun i hi => unhide HALL i (by rw [unhide HL] at hi; omega))
          go_wp2
          go_ret
          exact ⟨_, rfl, by rw [unhide HEB2, unhide HTR]; exact cke_nil _, HWr⟩
  · have h16i : (16 : Int) < (en : Int) := by omega
    rw [show entB ⟨k, f, t, te, ix, lt, co, ok, es, ms, dt⟩ = false by unfold entB; dsimp only; rw [hlen, decide_eq_false h16]; rfl]
    clear h hlen HL
    go_enter Tryz.func41, Tryz.ntmps41
    go_wp2
    go_ret
    exact ⟨_, rfl, cke_raw _, al_below _ _⟩
set_option maxHeartbeats 4000000 in
theorem chkSnap_any (k f t te ix lt co : Int) (ok : Bool) (ea ma : Option Addr) (en ec mn mcp : Nat) (es : List En) (ms : List Int) (dt : ByteArray) (w : World) (h : Ls w ma mn mcp ms) :
    Calls Tryz.prog 42 #[.agg #[.int .i64 k, .int .i64 f, .int .i64 t, .int .i64 te, .int .i64 ix, .int .i64 lt, .int .i64 co, .bool ok, .slice ea en ec, .slice ma mn mcp, .string dt]] w fun e w' => CkR (snpB ⟨k, f, t, te, ix, lt, co, ok, es, ms, dt⟩) e w w' := by
  have HW : Hid (Below w.heap.size w (w.alloc (.cells #[.int .i64 k, .int .i64 f, .int .i64 t, .int .i64 te, .int .i64 ix, .int .i64 lt, .int .i64 co, .bool ok, .slice ea en ec, .slice ma mn mcp, .string dt] 27))) := al_below _ _
  by_cases h1 : 1 ≤ ix
  · have g1 : ¬ ix < 1 := by omega
    by_cases h2 : ix ≤ 1099511625728
    · have g2 : ¬ 1099511625728 < ix := by omega
      by_cases h3 : dt.size ≤ 524288
      · have g3 : ¬ (524288 : Int) < (dt.size : Int) := by omega
        rw [show snpB ⟨k, f, t, te, ix, lt, co, ok, es, ms, dt⟩ = memB ms by unfold snpB; dsimp only; rw [decide_eq_true h1, decide_eq_true h2, decide_eq_true h3]; rfl]
        have HC := hide (chkMems_any ma mn mcp ms _ (h.below (unhide HW)))
        clear h
        go_enter Tryz.func42, Tryz.ntmps42
        go_wp2_with fail
        refine (unhide HC).mono ?_
        rintro e w3 ⟨E, rfl, HE, HB3⟩
        have HB4 : Hid (Below w.heap.size w w3) := bnx (unhide HW) (unhide HB3)
        go_wp2
        go_ret
        exact ⟨_, rfl, HE, HB4⟩
      · have g3 : (524288 : Int) < (dt.size : Int) := by omega
        rw [show snpB ⟨k, f, t, te, ix, lt, co, ok, es, ms, dt⟩ = false by unfold snpB; dsimp only; rw [decide_eq_false h3]; simp]
        go_enter Tryz.func42, Tryz.ntmps42
        go_wp2
        go_ret
        exact ⟨_, rfl, cke_raw _, unhide HW⟩
    · have g2 : 1099511625728 < ix := by omega
      rw [show snpB ⟨k, f, t, te, ix, lt, co, ok, es, ms, dt⟩ = false by unfold snpB; dsimp only; rw [decide_eq_false h2]; simp]
      go_enter Tryz.func42, Tryz.ntmps42
      go_wp2
      go_ret
      exact ⟨_, rfl, cke_raw _, unhide HW⟩
  · have g1 : ix < 1 := by omega
    rw [show snpB ⟨k, f, t, te, ix, lt, co, ok, es, ms, dt⟩ = false by unfold snpB; dsimp only; rw [decide_eq_false h1]; rfl]
    go_enter Tryz.func42, Tryz.ntmps42
    go_wp2
    go_ret
    exact ⟨_, rfl, cke_raw _, unhide HW⟩
theorem isEmpty_q (q : Mq) (w : World) (h1 : q.r.ents.length = q.en) (h2 : q.r.mems.length = q.mn) : Calls Tryz.prog 39 #[.agg (mcs q).toArray] w fun e w' => e = .returned (.bool (empB q.r)) ∧ Below w.heap.size w w' := by
  obtain ⟨⟨k, f, t, te, ix, lt, co, ok, es, ms, dt⟩, ea, en, ec, ma, mn, mcp⟩ := q
  exact isEmpty_any k f t te ix lt co ok ea ma en ec mn mcp es ms dt w h1 h2
theorem bq_len (q : Mq) (h1 : q.r.ents.length = q.en) (h2 : q.r.mems.length = q.mn) : (bq q).r.ents.length = (bq q).en ∧ (bq q).r.mems.length = (bq q).mn := by
  unfold bq bsd
  split
  · exact ⟨rfl, h2⟩
  · split
    · exact ⟨h1, rfl⟩
    · split
      · exact ⟨h1, h2⟩
      · split
        · exact ⟨h1, h2⟩
        · split <;> exact ⟨h1, h2⟩
theorem may_no {m : Rp} (h : (hdB m && empB (bsd m)) = false) : mayB m = false := by unfold mayB; rw [h]; rfl
set_option maxHeartbeats 4000000 in
theorem check_any (k f t te ix lt co : Int) (ok : Bool) (ea ma : Option Addr) (en ec mn mcp : Nat) (es : List En) (ms : List Int) (dt : ByteArray) (w : World) (h : Rok w ⟨⟨k, f, t, te, ix, lt, co, ok, es, ms, dt⟩, ea, en, ec, ma, mn, mcp⟩) :
    Calls Tryz.prog 26 #[.agg #[.int .i64 k, .int .i64 f, .int .i64 t, .int .i64 te, .int .i64 ix, .int .i64 lt, .int .i64 co, .bool ok, .slice ea en ec, .slice ma mn mcp, .string dt]] w fun e w' => CkR (mayB ⟨k, f, t, te, ix, lt, co, ok, es, ms, dt⟩) e w w' := by
  obtain ⟨B, hB⟩ : ∃ B, B = w.heap.size := ⟨_, rfl⟩
  have HB : Hid (Bx (w.alloc (.cells #[.int .i64 k, .int .i64 f, .int .i64 t, .int .i64 te, .int .i64 ix, .int .i64 lt, .int .i64 co, .bool ok, .slice ea en ec, .slice ma mn mcp, .string dt] 27)) B [.int .i64 k, .int .i64 f, .int .i64 t, .int .i64 te, .int .i64 ix, .int .i64 lt, .int .i64 co, .bool ok, .slice ea en ec, .slice ma mn mcp, .string dt] 27) := Bx.new w [.int .i64 k, .int .i64 f, .int .i64 t, .int .i64 te, .int .i64 ix, .int .i64 lt, .int .i64 co, .bool ok, .slice ea en ec, .slice ma mn mcp, .string dt] 27 B hB
  have HW : Hid (Below w.heap.size w (w.alloc (.cells #[.int .i64 k, .int .i64 f, .int .i64 t, .int .i64 te, .int .i64 ix, .int .i64 lt, .int .i64 co, .bool ok, .slice ea en ec, .slice ma mn mcp, .string dt] 27))) := al_below _ _
  have HK := hide (h.below (unhide HW))
  obtain ⟨hd, hhd⟩ : ∃ d, d = hdB ⟨k, f, t, te, ix, lt, co, ok, es, ms, dt⟩ := ⟨_, rfl⟩
  have HD := hide hhd
  clear h hhd
  go_enter Tryz.func26, Tryz.ntmps26
  go_upto_region 1 with fail
  change Code.wp _ _ _ _ (w.alloc (.cells #[.int .i64 k, .int .i64 f, .int .i64 t, .int .i64 te, .int .i64 ix, .int .i64 lt, .int .i64 co, .bool ok, .slice ea en ec, .slice ma mn mcp, .string dt] 27))
  rw [← hB]
  generalize w.alloc (.cells #[.int .i64 k, .int .i64 f, .int .i64 t, .int .i64 te, .int .i64 ix, .int .i64 lt, .int .i64 co, .bool ok, .slice ea en ec, .slice ma mn mcp, .string dt] 27) = W at HB HW HK ⊢
  clear hB
  have c0 := (unhide HB).cell 0 _ rfl
  have c1 := (unhide HB).cell 1 _ rfl
  have c2 := (unhide HB).cell 2 _ rfl
  have c3 := (unhide HB).cell 3 _ rfl
  have c4 := (unhide HB).cell 4 _ rfl
  have c5 := (unhide HB).cell 5 _ rfl
  have c6 := (unhide HB).cell 6 _ rfl
  have c7 := (unhide HB).cell 7 _ rfl
  have c8 := (unhide HB).cell 8 _ rfl
  have c9 := (unhide HB).cell 9 _ rfl
  have c10 := (unhide HB).cell 10 _ rfl
  go_wp2_with fail
  refine (isHead_any k f t te ix lt co ok ea ma en ec mn mcp es ms dt _).mono ?_
  rw [← unhide HD]
  rintro e w2 ⟨rfl, hb⟩
  have HB2 := hide ((unhide HB).below hb)
  have HW2 : Hid (Below w.heap.size w w2) := bnx (unhide HW) hb
  have HK2 := hide ((unhide HK).below hb)
  clear hb HB HW HK c0 c1 c2 c3 c4 c5 c6 c7 c8 c9 c10
  cases hd
  · have HNO : Hid (mayB ⟨k, f, t, te, ix, lt, co, ok, es, ms, dt⟩ = false) := may_no (by rw [← unhide HD]; rfl)
    go_wp2
    go_ret
    exact ⟨_, rfl, by rw [unhide HNO]; exact cke_raw _, HW2⟩
  · have HII : Hid (InN ix ∧ InN lt) := by
      obtain ⟨_, _, ⟨⟨_, h1⟩, h2⟩, _⟩ := hd_iff.1 (unhide HD).symm
      exact ⟨h1, h2⟩
    obtain ⟨em, hem⟩ : ∃ d, d = empB (bsd ⟨k, f, t, te, ix, lt, co, ok, es, ms, dt⟩) := ⟨_, rfl⟩
    have HEM := hide hem
    clear hem
    have c0 := (unhide HB2).cell 0 _ rfl
    have c1 := (unhide HB2).cell 1 _ rfl
    have c2 := (unhide HB2).cell 2 _ rfl
    have c3 := (unhide HB2).cell 3 _ rfl
    have c4 := (unhide HB2).cell 4 _ rfl
    have c5 := (unhide HB2).cell 5 _ rfl
    have c6 := (unhide HB2).cell 6 _ rfl
    have c7 := (unhide HB2).cell 7 _ rfl
    have c8 := (unhide HB2).cell 8 _ rfl
    have c9 := (unhide HB2).cell 9 _ rfl
    have c10 := (unhide HB2).cell 10 _ rfl
    go_wp2_with fail
    refine (beside_any k f t te ix lt co ok ea ma en ec mn mcp es ms dt _).mono ?_
    rintro e w3 ⟨rfl, hb3⟩
    have HB3 := hide ((unhide HB2).below hb3)
    have HW3 : Hid (Below w.heap.size w w3) := bnx (unhide HW2) hb3
    have HK3 := hide ((unhide HK2).below hb3)
    have HIE := hide (isEmpty_q (bq ⟨⟨k, f, t, te, ix, lt, co, ok, es, ms, dt⟩, ea, en, ec, ma, mn, mcp⟩) w3 (bq_len ⟨⟨k, f, t, te, ix, lt, co, ok, es, ms, dt⟩, ea, en, ec, ma, mn, mcp⟩ (unhide HK2).1.1 (unhide HK2).2.1).1 (bq_len ⟨⟨k, f, t, te, ix, lt, co, ok, es, ms, dt⟩, ea, en, ec, ma, mn, mcp⟩ (unhide HK2).1.1 (unhide HK2).2.1).2)
    rw [bq_r] at HIE
    change Hid (Calls _ _ _ _ fun e w' => e = .returned (.bool (empB (bsd ⟨k, f, t, te, ix, lt, co, ok, es, ms, dt⟩))) ∧ _) at HIE
    rw [← unhide HEM] at HIE
    clear hb3 HB2 HW2 HK2 c0 c1 c2 c3 c4 c5 c6 c7 c8 c9 c10
    generalize bq ⟨⟨k, f, t, te, ix, lt, co, ok, es, ms, dt⟩, ea, en, ec, ma, mn, mcp⟩ = qb at HIE ⊢
    go_wp2_with fail
    refine (unhide HIE).mono ?_
    rintro e w4 ⟨rfl, hb4⟩
    have HB4 := hide ((unhide HB3).below hb4)
    have HW4 : Hid (Below w.heap.size w w4) := bnx (unhide HW3) hb4
    have HK4 := hide ((unhide HK3).below hb4)
    clear hb4 HB3 HW3 HK3 HIE
    cases em
    · have HNO : Hid (mayB ⟨k, f, t, te, ix, lt, co, ok, es, ms, dt⟩ = false) := may_no (by rw [← unhide HEM]; simp)
      go_wp2
      go_ret
      exact ⟨_, rfl, by rw [unhide HNO]; exact cke_raw _, HW4⟩
    · have HYES : Hid (mayB ⟨k, f, t, te, ix, lt, co, ok, es, ms, dt⟩ = if k = 5 then entB ⟨k, f, t, te, ix, lt, co, ok, es, ms, dt⟩ else if k = 7 then snpB ⟨k, f, t, te, ix, lt, co, ok, es, ms, dt⟩ else true) := by
        show _ = _
        unfold mayB
        rw [← unhide HD, ← unhide HEM]
        rfl
      have c0 := (unhide HB4).cell 0 _ rfl
      have c1 := (unhide HB4).cell 1 _ rfl
      have c2 := (unhide HB4).cell 2 _ rfl
      have c3 := (unhide HB4).cell 3 _ rfl
      have c4 := (unhide HB4).cell 4 _ rfl
      have c5 := (unhide HB4).cell 5 _ rfl
      have c6 := (unhide HB4).cell 6 _ rfl
      have c7 := (unhide HB4).cell 7 _ rfl
      have c8 := (unhide HB4).cell 8 _ rfl
      have c9 := (unhide HB4).cell 9 _ rfl
      have c10 := (unhide HB4).cell 10 _ rfl
      clear HB4
      by_cases h5 : k = 5
      · rw [if_pos h5] at HYES
        subst h5
        go_wp2_with fail
        refine (chkEnts_any 5 f t te ix lt co ok ea ma en ec mn mcp es ms dt _ (unhide HII).1 (unhide HII).2 (unhide HK4).1).mono ?_
        rintro e w5 ⟨E, rfl, HE, HB5⟩
        have HW5 : Hid (Below w.heap.size w w5) := bnx (unhide HW4) (unhide HB5)
        go_wp2
        go_ret
        exact ⟨_, rfl, by rw [unhide HYES]; exact unhide HE, HW5⟩
      · by_cases h7 : k = 7
        · rw [if_neg h5, if_pos h7] at HYES
          subst h7
          go_wp2_with fail
          refine (chkSnap_any 7 f t te ix lt co ok ea ma en ec mn mcp es ms dt _ (unhide HK4).2).mono ?_
          rintro e w5 ⟨E, rfl, HE, HB5⟩
          have HW5 : Hid (Below w.heap.size w w5) := bnx (unhide HW4) (unhide HB5)
          go_wp2
          go_ret
          exact ⟨_, rfl, by rw [unhide HYES]; exact unhide HE, HW5⟩
        · rw [if_neg h5, if_neg h7] at HYES
          go_wp2
          go_ret
          exact ⟨_, rfl, by rw [unhide HYES]; exact cke_nil _, HW4⟩
theorem fault_any (t : TypeId) (x : Value) (w : World) : Calls Tryz.prog 27 #[.iface t x] w fun e w' => e = .returned (.iface 64 (.pointer (some ⟨w.heap.size, 0, none⟩))) ∧ w' = w.alloc (.cells #[.string ⟨#[114, 112, 99]⟩, .iface t x] 66) := by
  go_enter Tryz.func27, Tryz.ntmps27
  go_wp2
  go_ret
  exact ⟨rfl, rfl⟩
/-- a wrapped error -/
theorem fault_d (t : TypeId) (x : Value) (w : World) (h : ∃ d, d ≤ 1 ∧ Er w d (.iface t x) 1) : Calls Tryz.prog 27 #[.iface t x] w fun e w' => ∃ y, e = .returned (.iface 64 y) ∧ Hid (ErrX w' (.iface 64 y) 1) ∧ Hid (Below w.heap.size w w') := by
  obtain ⟨d, hd, h⟩ := h
  refine (fault_any t x w).mono ?_
  rintro e w' ⟨rfl, rfl⟩
  exact ⟨_, rfl, .inr ⟨d + 1, by omega, w.heap.size, .iface t x, rfl, by simp, h.below (al_below _ _)⟩, al_below _ _⟩
/-- what is told of an error: none, or a Fault -/
def ErI (w : World) (b : Bool) (E : Value) : Prop := ErrX w E (er b) ∧ ((b = true ∧ E = .nilIface) ∨ (b = false ∧ ∃ t x, E = .iface t x))
theorem ErI.below {w w' : World} {b : Bool} {E : Value} (h : ErI w b E) (hb : Below w.heap.size w w') : ErI w' b E := ⟨h.1.below hb, h.2⟩
def ErR (b : Bool) (e : Ending) (w w' : World) : Prop := ∃ E, e = .returned E ∧ Hid (ErI w' b E) ∧ Hid (Below w.heap.size w w')
theorem eri_nil (w : World) : ErI w true .nilIface := ⟨.inl ⟨rfl, rfl⟩, .inl ⟨rfl, rfl⟩⟩
set_option maxHeartbeats 2000000 in
theorem Check_any (q : Mq) (w : World) (h : Rok w q) :
    Calls Tryz.prog 9 #[.agg (mcs q).toArray] w fun e w' => ErR (mayB q.r) e w w' := by
  obtain ⟨⟨k, f, t, te, ix, lt, co, ok, es, ms, dt⟩, ea, en, ec, ma, mn, mcp⟩ := q
  show Calls Tryz.prog 9 #[.agg #[.int .i64 k, .int .i64 f, .int .i64 t, .int .i64 te, .int .i64 ix, .int .i64 lt, .int .i64 co, .bool ok, .slice ea en ec, .slice ma mn mcp, .string dt]] w _
  have HW : Hid (Below w.heap.size w (w.alloc (.cells #[.int .i64 k, .int .i64 f, .int .i64 t, .int .i64 te, .int .i64 ix, .int .i64 lt, .int .i64 co, .bool ok, .slice ea en ec, .slice ma mn mcp, .string dt] 27))) := al_below _ _
  have HC := hide (check_any k f t te ix lt co ok ea ma en ec mn mcp es ms dt _ (h.below (unhide HW)))
  clear h
  dsimp only
  generalize mayB ⟨k, f, t, te, ix, lt, co, ok, es, ms, dt⟩ = b at HC ⊢
  go_enter Tryz.func9, Tryz.ntmps9
  go_wp2_with fail
  refine (unhide HC).mono ?_
  rintro e w2 ⟨E, rfl, HE, HB⟩
  have HW2 : Hid (Below w.heap.size w w2) := bnx (unhide HW) (unhide HB)
  rcases unhide HE with ⟨rfl, rfl⟩ | ⟨rfl, t', x', rfl, hd⟩
  · clear HE HB
    go_wp2
    go_ret
    exact ⟨_, rfl, eri_nil _, HW2⟩
  · have HF := hide (fault_d t' x' w2 hd)
    clear hd HE HB
    go_wp2_with fail
    refine (unhide HF).mono ?_
    rintro e w3 ⟨y, rfl, HX, HB3⟩
    have HW3 : Hid (Below w.heap.size w w3) := bnx (unhide HW2) (unhide HB3)
    go_wp2
    go_ret
    exact ⟨_, rfl, ⟨unhide HX, .inr ⟨rfl, _, _, rfl⟩⟩, HW3⟩
end Go.Proofs.YtmmhdhpocjnlbaaGreatDoor.Jr
