/- Proved here: the page's EqRpc at any two messages; its node, in, conf and confs. Helper contracts. -/
import Derived.Test.YtmmhdhpocjnlbaaGreatDoorZJCk
import Derived.Test.YtmmhdhpocjnlbaaGreatDoorZNEn
import Derived.Test.YtmmhdhpocjnlbaaGreatDoorZNNm
namespace Go.Proofs.YtmmhdhpocjnlbaaGreatDoor.Jr
open Go.RowKit Nt Et Qu
set_option maxRecDepth 100000

theorem Rok.nms {w : World} {q : Mq} (h : Rok w q) : Nms w (.slice q.ma q.mn q.mc) q.r.mems := by
  obtain ⟨h1, h2, h3, h4, h5⟩ := h.2
  refine ⟨q.ma, q.mc, by rw [h1], ?_⟩
  rcases h5 with h5 | ⟨b, off, e, hc⟩
  · exact ⟨⟨by omega, h3.1⟩, .inl (List.length_eq_zero_iff.1 (h1.trans h5))⟩
  · exact ⟨⟨by omega, h3.1⟩, .inr ⟨b, off, e, hc⟩⟩
theorem str_eq {a b : ByteArray} : (a.toList == b.toList) = decide (a = b) := by
  by_cases h : a = b
  · subst h; simp
  · rw [decide_eq_false h]
    rw [beq_eq_false_iff_ne]
    exact fun e => h (toList_inj e)
def EqR2 (q p : Rp) (e : Ending) (w w' : World) : Prop := (∃ b, e = .returned (.bool b) ∧ Hid (b = true ↔ q = p)) ∧ Hid (Below w.heap.size w w')
set_option maxHeartbeats 8000000 in
theorem eqr_core (k f t te ix lt co ix2 lt2 co2 : Int) (ok ok2 : Bool) (ea ma ea2 ma2 : Option Addr) (en ec mn mcp en2 ec2 mn2 mcp2 : Nat) (es es2 : List En) (ms ms2 : List Int) (dt dt2 : ByteArray) (w : World) (HE1 : Hid (Ens w (.slice ea en ec) es)) (HE2 : Hid (Ens w (.slice ea2 en2 ec2) es2)) (HN1 : Hid (Nms w (.slice ma mn mcp) ms)) (HN2 : Hid (Nms w (.slice ma2 mn2 mcp2) ms2)) (hes : es.length ≤ 140737488351232) :
    Calls Tryz.prog 10 #[.agg #[.int .i64 k, .int .i64 f, .int .i64 t, .int .i64 te, .int .i64 ix, .int .i64 lt, .int .i64 co, .bool ok, .slice ea en ec, .slice ma mn mcp, .string dt], .agg #[.int .i64 k, .int .i64 f, .int .i64 t, .int .i64 te, .int .i64 ix2, .int .i64 lt2, .int .i64 co2, .bool ok2, .slice ea2 en2 ec2, .slice ma2 mn2 mcp2, .string dt2]] w fun e w' => EqR2 ⟨k, f, t, te, ix, lt, co, ok, es, ms, dt⟩ ⟨k, f, t, te, ix2, lt2, co2, ok2, es2, ms2, dt2⟩ e w w' := by
  by_cases h4 : ix = ix2
  · subst h4
    by_cases h5 : lt = lt2
    · subst h5
      by_cases h6 : co = co2
      · subst h6
        by_cases h7 : ok = ok2
        · subst h7
          obtain ⟨ds, hds⟩ : ∃ d, d = decide (dt = dt2) := ⟨_, rfl⟩
          have HDS : Hid ((dt.toList == dt2.toList) = ds) := by show _ = _; rw [str_eq, hds]
          have HDD := hide hds
          clear hds
          go_enter Tryz.func10, Tryz.ntmps10
          go_wp2_with fail
          refine (eqe_any _ _ es es2 _ ((unhide HE1).below (bnx (al_below _ _) (al_below _ _))) ((unhide HE2).below (bnx (al_below _ _) (al_below _ _))) hes).mono ?_
          rintro e w1 ⟨⟨b, rfl, hb⟩, n1, hw1⟩
          have c9 : w1.cell? ⟨w.heap.size, 9, none⟩ = some (.slice ma mn mcp) := by rw [hw1]; simp
          have c10 : w1.cell? ⟨w.heap.size, 10, none⟩ = some (.string dt) := by rw [hw1]; simp
          have d9 : w1.cell? ⟨w.heap.size + 1, 9, none⟩ = some (.slice ma2 mn2 mcp2) := by rw [hw1]; simp
          have d10 : w1.cell? ⟨w.heap.size + 1, 10, none⟩ = some (.string dt2) := by rw [hw1]; simp
          have HB1 : Hid (Below w.heap.size w w1) := by show Below _ _ _; rw [hw1]; exact below_drewN (bnx (al_below _ _) (al_below _ _)) n1
          have HBE := hide hb
          clear hb hw1 HE1 HE2
          cases b
          · clear c9 c10 d9 d10 HN1 HN2
            go_wp2
            go_ret
            exact ⟨⟨false, rfl, ⟨(fun h => by cases h), (fun h => by cases h; exact absurd ((unhide HBE).2 rfl) (by decide))⟩⟩, HB1⟩
          · have he : es = es2 := (unhide HBE).1 rfl
            subst he
            obtain ⟨dm, hdm⟩ : ∃ d, d = decide (ms = ms2) := ⟨_, rfl⟩
            have HDM := hide hdm
            have HNQ := hide ((unhide HN1).below (unhide HB1))
            have HNP := hide ((unhide HN2).below (unhide HB1))
            clear hdm
            go_wp2_with fail
            refine (eqn_any _ _ ms ms2 _ (unhide HNQ) (unhide HNP)).mono ?_
            rw [← unhide HDM]
            rintro e w2 ⟨rfl, n2, hw2⟩
            have e10 : w2.cell? ⟨w.heap.size, 10, none⟩ = some (.string dt) := by rw [hw2]; exact c10
            have f10 : w2.cell? ⟨w.heap.size + 1, 10, none⟩ = some (.string dt2) := by rw [hw2]; exact d10
            have HB2 : Hid (Below w.heap.size w w2) := by show Below _ _ _; rw [hw2]; exact below_drewN (unhide HB1) n2
            clear hw2 c9 c10 d9 d10 HN1 HN2 HNQ HNP
            cases dm
            · have hm : ¬ ms = ms2 := of_decide_eq_false (unhide HDM).symm
              have HM := hide hm
              clear hm e10 f10
              go_wp2
              go_ret
              exact ⟨⟨false, rfl, ⟨(fun h => by cases h), (fun h => by cases h; exact absurd rfl (unhide HM))⟩⟩, HB2⟩
            · have hm : ms = ms2 := of_decide_eq_true (unhide HDM).symm
              subst hm
              have hdd := unhide HDS
              go_wp2
              go_ret
              refine ⟨⟨ds, ?_, ⟨fun h => ?_, fun h => ?_⟩⟩, HB2⟩
              · first | rfl | (simp only [hdd]; done) | simp
              · have := unhide HDD
                rw [h] at this
                rw [of_decide_eq_true this.symm]
              · cases h
                rw [unhide HDD]
                simp
        · clear HE1 HE2 HN1 HN2
          go_enter Tryz.func10, Tryz.ntmps10
          go_wp2
          go_ret
          exact ⟨⟨false, rfl, ⟨(fun h => by cases h), (fun h => by cases h; exact absurd rfl h7)⟩⟩, bnx (al_below _ _) (al_below _ _)⟩
      · clear HE1 HE2 HN1 HN2
        go_enter Tryz.func10, Tryz.ntmps10
        go_wp2
        go_ret
        exact ⟨⟨false, rfl, ⟨(fun h => by cases h), (fun h => by cases h; exact absurd rfl h6)⟩⟩, bnx (al_below _ _) (al_below _ _)⟩
    · clear HE1 HE2 HN1 HN2
      go_enter Tryz.func10, Tryz.ntmps10
      go_wp2
      go_ret
      exact ⟨⟨false, rfl, ⟨(fun h => by cases h), (fun h => by cases h; exact absurd rfl h5)⟩⟩, bnx (al_below _ _) (al_below _ _)⟩
  · clear HE1 HE2 HN1 HN2
    go_enter Tryz.func10, Tryz.ntmps10
    go_wp2
    go_ret
    exact ⟨⟨false, rfl, ⟨(fun h => by cases h), (fun h => by cases h; exact absurd rfl h4)⟩⟩, bnx (al_below _ _) (al_below _ _)⟩
theorem eqr_any (q p : Mq) (w : World) (hq : Rok w q) (hp : Rok w p) (h4 : q.r.kind = p.r.kind ∧ q.r.frm = p.r.frm ∧ q.r.to = p.r.to ∧ q.r.term = p.r.term) :
    Calls Tryz.prog 10 #[.agg (mcs q).toArray, .agg (mcs p).toArray] w fun e w' => EqR2 q.r p.r e w w' := by
  have hes : q.r.ents.length ≤ 140737488351232 := by have := hq.szs.1; omega
  have h1 := hq.nms
  have h2 := hp.nms
  obtain ⟨⟨k, f, t, te, ix, lt, co, ok, es, ms, dt⟩, ea, en, ec, ma, mn, mcp⟩ := q
  obtain ⟨⟨k2, f2, t2, te2, ix2, lt2, co2, ok2, es2, ms2, dt2⟩, ea2, en2, ec2, ma2, mn2, mcp2⟩ := p
  obtain ⟨e1, e2, e3, e4⟩ := h4
  dsimp only at e1 e2 e3 e4
  subst e1 e2 e3 e4
  exact eqr_core k f t te ix lt co ix2 lt2 co2 ok ok2 ea ma ea2 ma2 en ec mn mcp en2 ec2 mn2 mcp2 es es2 ms ms2 dt dt2 w hq.1.ens hp.1.ens h1 h2 hes
theorem node_any (n : Int) (w : World) : Calls Tryz.prog 17 #[.int .i64 n] w fun e w' => e = .returned (.bool (nodB n)) ∧ w' = w := by
  by_cases h1 : 1 ≤ n
  · by_cases h2 : n ≤ 7
    · rw [show nodB n = true by simp [nodB, h1, h2]]
      go_enter Tryz.func17, Tryz.ntmps17
      go_wp2
      go_ret
      exact ⟨rfl, rfl⟩
    · rw [show nodB n = false by simp [nodB, h2]]
      go_enter Tryz.func17, Tryz.ntmps17
      go_wp2
      go_ret
      exact ⟨rfl, rfl⟩
  · rw [show nodB n = false by simp [nodB, h1]]
    go_enter Tryz.func17, Tryz.ntmps17
    go_wp2
    go_ret
    exact ⟨rfl, rfl⟩
theorem inn_any (n : Int) (w : World) : Calls Tryz.prog 18 #[.int .i64 n] w fun e w' => e = .returned (.bool (inB n)) ∧ w' = w := by
  by_cases h1 : 0 ≤ n
  · by_cases h2 : n ≤ 1099511627775
    · rw [show inB n = true by simp [inB, h1, h2]]
      go_enter Tryz.func18, Tryz.ntmps18
      go_wp2
      go_ret
      exact ⟨rfl, rfl⟩
    · rw [show inB n = false by simp [inB, h2]]
      have h2d : decide (n ≤ 1099511627775) = false := decide_eq_false h2
      go_enter Tryz.func18, Tryz.ntmps18
      go_wp2
      go_ret
      exact ⟨rfl, rfl⟩
  · rw [show inB n = false by simp [inB, h1]]
    go_enter Tryz.func18, Tryz.ntmps18
    go_wp2
    go_ret
    exact ⟨rfl, rfl⟩
set_option maxHeartbeats 2000000 in
theorem conf_any (i t k : Int) (s : ByteArray) (w : World) (hs : s.size ≤ 4096) :
    Calls Tryz.prog 32 #[.agg #[.int .i64 i, .int .i64 t, .int .i64 k, .string s]] w fun e w' => e = .returned (.bool (confB (i, t, k, s))) ∧ Hid (Below w.heap.size w w') := by
  by_cases h2 : k = 2
  · subst h2
    rw [show confB (i, t, 2, s) = memB (sb s) from rfl]
    have HA : Hid (Below w.heap.size w (w.alloc (.cells #[.int .i64 i, .int .i64 t, .int .i64 2, .string s] 56))) := al_below _ _
    obtain ⟨d, hd⟩ : ∃ d, d = decide (Mem (sb s)) := ⟨_, rfl⟩
    have HD := hide hd
    go_enter Tryz.func32, Tryz.ntmps32
    go_wp2_with fail
    refine (rpar_any s _ (by omega)).mono ?_
    rw [← hd]
    rintro e w2 ⟨⟨ao, n, cap, rfl, HO⟩, HB⟩
    have HB2 : Hid (Below w.heap.size w w2) := bnx (unhide HA) (unhide HB)
    have HL : Hid ((sb s).length = n) := (unhide HO).ls.1
    clear hd HB HO
    cases d
    · have HM : Hid (memB (sb s) = false) := by show _ = _; unfold memB; rw [← unhide HD]; simp
      go_wp2
      go_ret
      exact ⟨by rw [unhide HM]; rfl, HB2⟩
    · by_cases h0 : n = 0
      · subst h0
        have HM : Hid (memB (sb s) = false) := by show _ = _; unfold memB; rw [unhide HL]; simp
        go_wp2
        go_ret
        exact ⟨by rw [unhide HM]; rfl, HB2⟩
      · have h1 : (0 : Int) < (n : Int) := by omega
        have HM : Hid (memB (sb s) = true) := by show _ = _; unfold memB; rw [← unhide HD, unhide HL]; simp [h0]
        go_wp2
        go_ret
        exact ⟨by rw [unhide HM]; show Ending.returned (.bool (decide (0 < n))) = _; rw [decide_eq_true (show 0 < n by omega)], HB2⟩
  · rw [show confB (i, t, k, s) = true by unfold confB; dsimp only; rw [if_neg h2]]
    go_enter Tryz.func32, Tryz.ntmps32
    go_wp2
    go_ret
    exact ⟨rfl, al_below _ _⟩
set_option maxHeartbeats 2000000 in
theorem confs_any (ao : Option Addr) (n cap : Nat) (l : List En) (w : World) (h : Es w ao n cap l) (hs : ∀ j, j < n → (en0 l j).2.2.2.size ≤ 4096) :
    Calls Tryz.prog 20 #[.slice ao n cap] w fun e w' => e = .returned (.bool (l.all confB)) ∧ Hid (Below w.heap.size w w') := by
  have HE := hide h
  have HS := hide hs
  have HL : Hid (l.length = n) := h.1
  have hmx := h.2.2.2.1
  clear h hs
  obtain ⟨d, hd⟩ : ∃ d, d = l.all confB := ⟨_, rfl⟩
  have HD := hide hd
  rw [← hd]
  clear hd
  go_enter Tryz.func20, Tryz.ntmps20
  go_wp2
  go_loopw [3] (fun i wr => ∃ j : Nat, j ≤ n ∧ i = .int .i64 j ∧ Hid (∀ i, i < j → confB (en0 l i) = true) ∧ Hid (Below w.heap.size w wr)) (fun i _ => n - (intOf i).toNat)
  case atStart => exact ⟨0, Nat.zero_le _, rfl, fun i hi => absurd hi (Nat.not_lt_zero i), Below.refl _ _⟩
  case round =>
    obtain ⟨j, hj, rfl, HALL, HWr⟩ := hrel
    by_cases hlt : j < n
    · obtain ⟨b, off, rfl, q0, q1, q2, q3⟩ := ens_conf ((unhide HE).below (unhide HWr)) hlt
      have hsz := unhide HS j hlt
      have HNO := hide (fun (h : confB (en0 l j) = false) => (unhide HD).trans (not_conf (by rw [unhide HL]; exact hlt) h))
      have HST := hide (fun (h : confB (en0 l j) = true) => fun i (hi : i < j + 1) => by
        rcases Nat.lt_succ_iff_lt_or_eq.1 hi with h1 | h1
        · exact unhide HALL i h1
        · rw [h1]; exact h)
      obtain ⟨x, y, z, s, hp⟩ : ∃ x y z s, en0 l j = (x, y, z, s) := ⟨_, _, _, _, rfl⟩
      rw [hp] at q0 q1 q2 q3 hsz HNO HST
      dsimp only at q0 q1 q2 q3 hsz
      clear hp
      go_wp2_with fail
      refine (conf_any x y z s _ hsz).mono ?_
      obtain ⟨cb, hcb⟩ : ∃ cb, cb = confB (x, y, z, s) := ⟨_, rfl⟩
      rw [← hcb] at HNO HST
      rw [← hcb]
      rintro e w5 ⟨rfl, HB5⟩
      have HW5 : Hid (Below w.heap.size w w5) := bnx (unhide HWr) (unhide HB5)
      clear q0 q1 q2 q3 HB5 HWr hcb
      cases cb
      · have HF := hide (unhide HNO rfl)
        clear HST HNO HALL
        go_wp2
        go_ret
        exact ⟨by rw [unhide HF]; rfl, HW5⟩
      · have HST2 := hide (unhide HST rfl)
        clear HST HNO HALL
        go_wp2
        go_roundw
        case rel => exact ⟨j + 1, by omega, by go_num, HST2, HW5⟩
        case measure => simp [intOf]; omega
    · have HT : Hid (d = true) := (unhide HD).trans (all_conf (fun i hi => unhide HALL i (by rw [unhide HL] at hi; omega)))
      go_wp2
      go_ret
      exact ⟨by rw [unhide HT]; rfl, HWr⟩
end Go.Proofs.YtmmhdhpocjnlbaaGreatDoor.Jr
