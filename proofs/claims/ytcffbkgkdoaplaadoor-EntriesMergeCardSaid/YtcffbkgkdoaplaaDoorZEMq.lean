/- Proved here: dovecoteref15.Merge of what may be. Helper contracts. -/
import Derived.Test.YtcffbkgkdoaplaaDoorZEMm
import Derived.Test.YtcffbkgkdoaplaaDoorZEPd
import Derived.Deep.Cut
import Derived.Deep.CutRange
namespace Go.Proofs.YtcffbkgkdoaplaaDoor.Et
open Go.RowKit Nt
set_option maxRecDepth 100000

/-- what the page tells: a log as it reads, whether it misses, a number, and another one -/
def TelQ (r : Int × Bool × Lo) (e : Ending) (w' : World) : Prop := ∃ (z : Int) (ao : Option Addr) (n c : Nat), e = .returned (.tuple #[.agg #[.int .i64 r.2.2.b, .int .i64 r.2.2.t, .slice ao n c], .bool r.2.1, .int .i64 r.1, .int .i64 z]) ∧ Hid (Es w' ao n c r.2.2.es)
theorem res_l4 {fn : Func} {a t u v : Tmp} (h : fn.results = #[.cell a 25, .tmp t, .tmp u, .tmp v]) {tmps : Array Value} {w : World} {B : Nat} {v0 v1 v2 : Value} (ha : tmps[a]?.getD undef = .pointer (some ⟨B, 0, none⟩)) (hb : Bx w B [v0, v1, v2] 25) :
    (results fn tmps).run Tryd.prog w = .ok (.tuple #[.agg #[v0, v1, v2], tmps[t]?.getD undef, tmps[u]?.getD undef, tmps[v]?.getD undef]) w := by
  have c0 := hb.cell 0 v0 rfl
  have c1 := hb.cell 1 v1 rfl
  have c2 := hb.cell 2 v2 rfl
  simp [results, h, ha, go_sem, c0, c1, c2]
/-- a list that lies where nothing is stored reads on -/
theorem es_put {w0 w : World} {R : Nat} {x y z : Value} {ao : Option Addr} {n c : Nat} {l : List En} (h : Es w0 ao n c l) (hb : Below w0.heap.size w0 w) (hR : w0.heap.size ≤ R) : Es (put3 w R x y z) ao n c l := h.below (put3_below hb hR)
set_option maxHeartbeats 8000000 in
theorem mrgP_any (b t p u : Int) (ao : Option Addr) (n cap : Nat) (l : List En) (ao2 : Option Addr) (m cap2 : Nat) (es : List En) (w : World) (h : Es w ao n cap l) (h2 : Es w ao2 m cap2 es) (hm : May ⟨b, t, l⟩) (hg : MayMg p u es) :
    Calls Tryd.prog 30 #[.agg #[.int .i64 b, .int .i64 t, .slice ao n cap], .int .i64 p, .int .i64 u, .slice ao2 m cap2] w fun e w' => TelQ (mrgR ⟨b, t, l⟩ p u es) e w' ∧ Hid (Below w.heap.size w w') := by
  have HB0 : Hid (Below w.heap.size w ((w.alloc (.cells #[.int .i64 b, .int .i64 t, .slice ao n cap] 25)).alloc (.cells #[.int .i64 0, .int .i64 0, .slice none 0 0] 25))) := ((Below.refl _ _).alloc (Nat.le_refl _) _).alloc (by simp) _
  have HX0 : Hid (Bx ((w.alloc (.cells #[.int .i64 b, .int .i64 t, .slice ao n cap] 25)).alloc (.cells #[.int .i64 0, .int .i64 0, .slice none 0 0] 25)) w.heap.size [.int .i64 b, .int .i64 t, .slice ao n cap] 25) := (Bx.new w _ _ _ rfl).below ((Below.refl _ _).alloc (Nat.le_refl _) _)
  have HY0 : Hid (Bx ((w.alloc (.cells #[.int .i64 b, .int .i64 t, .slice ao n cap] 25)).alloc (.cells #[.int .i64 0, .int .i64 0, .slice none 0 0] 25)) (w.heap.size + 1) [.int .i64 0, .int .i64 0, .slice none 0 0] 25) := Bx.new _ _ _ _ (by simp)
  have hs0 : ((w.alloc (.cells #[.int .i64 b, .int .i64 t, .slice ao n cap] 25)).alloc (.cells #[.int .i64 0, .int .i64 0, .slice none 0 0] 25)).heap.size = w.heap.size + 2 := by simp
  have HE := hide h
  have HE2 := hide h2
  have HM := hide hm
  have HMG := hide hg
  have hb1 : 0 ≤ b := hm.1.1
  have hb2 : b ≤ 1099511625728 := hm.1.2.1
  have hp0 : 0 ≤ p := hg.1
  have hp1 : p ≤ 1099511627776 := hg.2.1
  have hn5 : n ≤ 512 := by have := hm.2.1; rw [h.1] at this; exact this
  have hmx2 := h2.2.2.2.1
  have hmc2 := h2.2.1
  have HL2 := hide h2.1
  have HI : Hid (lastI ⟨b, t, l⟩ = b + (n : Int)) := by
    show _ = _
    unfold lastI
    rw [h.1]
  obtain ⟨P, hP⟩ : ∃ P, P = mP ⟨b, t, l⟩ p := ⟨_, rfl⟩
  obtain ⟨U, hU⟩ : ∃ U, U = mU ⟨b, t, l⟩ p u := ⟨_, rfl⟩
  obtain ⟨E, hE⟩ : ∃ E, E = mE ⟨b, t, l⟩ p es := ⟨_, rfl⟩
  have HP := hide hP
  have HU := hide hU
  have HEE := hide hE
  have hPb : b ≤ P := by
    rw [hP]
    by_cases hpb : p < b
    · exact Int.le_of_eq (if_pos (show p < (⟨b, t, l⟩ : Lo).b from hpb)).symm
    · have e : mP ⟨b, t, l⟩ p = p := if_neg hpb
      rw [e]; omega
  have hPx : P ≤ 1099511627776 := by
    rw [hP]
    by_cases hpb : p < b
    · have e : mP ⟨b, t, l⟩ p = b := if_pos hpb
      rw [e]; omega
    · have e : mP ⟨b, t, l⟩ p = p := if_neg hpb
      rw [e]; omega
  have HIX : Hid (∀ k, k < E.length → (en0 E k).1 = P + 1 + (k : Nat)) := fun k hk => by
    rw [hE] at hk ⊢
    rw [hP]
    by_cases hpb : p < b
    · have e1 : mP ⟨b, t, l⟩ p = b := if_pos hpb
      have e2 : mE ⟨b, t, l⟩ p es = es.drop (min (b - p).toNat es.length) := if_pos hpb
      rw [e2] at hk ⊢
      rw [e1, en0_drop]
      rw [List.length_drop] at hk
      rw [(hg.2.2.2 _ (by omega)).1]
      omega
    · have e1 : mP ⟨b, t, l⟩ p = p := if_neg hpb
      have e2 : mE ⟨b, t, l⟩ p es = es := if_neg hpb
      rw [e2] at hk ⊢
      rw [e1, (hg.2.2.2 k hk).1]
  obtain ⟨rr, hrr⟩ : ∃ rr, rr = mrgR ⟨b, t, l⟩ p u es := ⟨_, rfl⟩
  have HRR := hide hrr
  rw [← hrr]
  clear hrr hP hU hE h h2 hm hg
  go_enter Tryd.func30, Tryd.ntmps30
  go_upto_if 23 with fail
  generalize ((w.alloc (.cells #[.int .i64 b, .int .i64 t, .slice ao n cap] 25)).alloc (.cells #[.int .i64 0, .int .i64 0, .slice none 0 0] 25)) = w0 at HB0 HX0 HY0 hs0 ⊢
  go_cut [1, 2, 3] from 12 to 43 (fun s1 s2 s3 wx => ∃ (a3 : Option Addr) (m3 c3 : Nat), s1 = .int .i64 P ∧ s2 = .int .i64 U ∧ s3 = .slice a3 m3 c3 ∧ Hid (Es w a3 m3 c3 E) ∧ wx = w0)
  case first =>
    obtain ⟨⟨c0, c1, c2⟩, cf⟩ := bx_slot (unhide HX0)
    clear cf
    by_cases hpb : p < b
    · have e1 : P = b := (unhide HP).trans (if_pos hpb)
      have e2 : U = t := (unhide HU).trans (if_pos hpb)
      obtain ⟨q, hq⟩ : ∃ q : Nat, b - p = (q : Int) := ⟨(b - p).toNat, by omega⟩
      have e3 : E = es.drop (min q m) := by
        rw [unhide HEE]
        have e : mE ⟨b, t, l⟩ p es = es.drop (min (b - p).toNat es.length) := if_pos hpb
        rw [e, unhide HL2, hq, Int.toNat_natCast]
      have hq2 : wrap64 (b - p) = (q : Int) := by unfold wrap64; omega
      have hq3 : IntKind.i64.wrap (b - p) = (q : Int) := by rw [IntKind.wrap_i64]; omega
      have HH := hide ((unhide HE2).hi (min q m) (by omega))
      rw [← e3] at HH
      subst e1 e2
      have HEQ := hide e3
      clear hq HP HU HEE HRR HIX HMG HM HI hPb hPx e3
      unfold hiA at HH
      by_cases hqm : q ≤ m
      · have e4 : min q m = q := by omega
        rw [e4] at HH
        clear e4 HEQ
        by_cases hcc : cap2 = q
        · obtain rfl : q = cap2 := hcc.symm
          obtain rfl : q = m := by omega
          rw [if_pos rfl, Nat.sub_self] at HH
          clear hcc
          go_wp2
          go_meet
          case rel => exact ⟨_, _, _, rfl, rfl, rfl, HH, rfl⟩
        · rw [if_neg hcc] at HH
          go_wp2
          go_meet
          case rel => exact ⟨_, _, _, rfl, rfl, rfl, HH, rfl⟩
      · have e4 : min q m = m := by omega
        have HN : Hid (Es w none 0 0 E) := by
          show Es _ _ _ _ _
          rw [unhide HEQ, e4, List.drop_eq_nil_of_le (by rw [unhide HL2]; exact Nat.le_refl _)]
          exact ⟨rfl, Nat.le_refl _, ⟨by decide, fun _ => rfl⟩, by decide, .inl rfl⟩
        clear e4 HEQ
        have hmq : (m : Int) < (q : Int) := by omega
        by_cases hcc : cap2 = m
        · obtain rfl : m = cap2 := hcc.symm
          clear hcc HH
          go_wp2
          go_meet
          case rel => exact ⟨_, _, _, rfl, rfl, rfl, HN, rfl⟩
        · clear HH
          go_wp2
          go_meet
          case rel => exact ⟨_, _, _, rfl, rfl, rfl, HN, rfl⟩
    · have e1 : P = p := (unhide HP).trans (if_neg hpb)
      have e2 : U = u := (unhide HU).trans (if_neg hpb)
      have e3 : E = es := (unhide HEE).trans (if_neg hpb)
      subst e1 e2 e3
      clear HP HU HEE HRR HIX HMG HM HI hPb hPx
      go_wp2
      go_meet
      case rel => exact ⟨_, _, _, rfl, rfl, rfl, HE2, rfl⟩
  case rest =>
  obtain ⟨a3, m3, c3, rfl, rfl, rfl, HE3, hwc⟩ := hcut
  obtain rfl := hwc.symm
  obtain ⟨⟨c0, c1, c2⟩, cf⟩ := bx_slot (unhide HX0)
  clear cf
  have hm3 : m3 ≤ c3 := (unhide HE3).2.1
  have hm3x : m3 ≤ 3518437208780 := (unhide HE3).2.2.2.1
  have HL3 := hide (unhide HE3).1
  obtain ⟨d, hd⟩ : ∃ d, d = termAt ⟨b, t, l⟩ P := ⟨_, rfl⟩
  have HD := hide hd
  have HTC := hide (termP_any b t ao n cap l P w0 ((unhide HE).below (unhide HB0)) (unhide HM))
  rw [← hd] at HTC
  clear hd
  by_cases hdu : d = some U
  · subst hdu
    have HRH : Hid (rr = ((mgdR ⟨b, t, l⟩ E).1, false, (mgdR ⟨b, t, l⟩ E).2)) := by
      show _ = _
      rw [unhide HRR, mrgR_has ⟨unhide HM, unhide HMG⟩ (by rw [← unhide HP, ← unhide HU]; exact (unhide HD).symm), ← unhide HEE]
    have hPl : P ≤ b + (n : Int) := by
      by_cases h5 : lastI ⟨b, t, l⟩ < P
      · have h6 := unhide HD
        rw [termAt_none (.inr h5)] at h6; cases h6
      · rw [unhide HI] at h5; omega
    go_wp2_with fail
    refine (unhide HTC).mono ?_
    rintro e w1 ⟨rfl, hb⟩
    have HB1 : Hid (Below w.heap.size w w1) := bnx (unhide HB0) hb
    have HX1 := hide ((unhide HX0).below hb)
    have HY1 := hide ((unhide HY0).below hb)
    have hs1 : w.heap.size + 2 ≤ w1.heap.size := by rw [← hs0]; exact hb.size
    clear hb HX0 HY0 hs0 HB0 HTC c0 c1 c2 HP HU HEE HRR HMG
    unfold tmRes2
    go_wp2
    go_loopw [15] (fun ii wr => ∃ k : Nat, k ≤ m3 ∧ ii = .int .i64 (k : Int) ∧ Hid (∀ j, j < k → There ⟨b, t, l⟩ (en0 E j)) ∧ Hid (Below w1.heap.size w1 wr)) (fun ii _ => m3 - (intOf ii).toNat)
    case atStart => exact ⟨0, Nat.zero_le _, rfl, fun j hj => absurd hj (Nat.not_lt_zero j), Below.refl _ _⟩
    case round =>
      obtain ⟨k, hk, rfl, HALL, HBl⟩ := hrel
      have HBr : Hid (Below w.heap.size w wr) := bnx (unhide HB1) (unhide HBl)
      have HXr := hide ((unhide HX1).below (unhide HBl))
      have HYr := hide ((unhide HY1).below (unhide HBl))
      have hsr : w.heap.size + 2 ≤ wr.heap.size := by have := (unhide HBl).size; omega
      by_cases hlt : k < m3
      · rcases (unhide HE3).2.2.2.2 with h5 | ⟨bb, off, h5, hcc⟩
        · omega
        obtain ⟨h0, h1, _, _⟩ := (hcc.below (unhide HBr)) k (by rw [unhide HL3]; exact hlt)
        have hx := unhide HIX k (by rw [unhide HL3]; exact hlt)
        obtain ⟨y, hy⟩ : ∃ y, y = (en0 E k).2.1 := ⟨_, rfl⟩
        have HTH : Hid (There ⟨b, t, l⟩ (en0 E k) ↔ termAt ⟨b, t, l⟩ (P + 1 + (k : Int)) = some y) := by
          show _ ↔ _
          unfold There
          rw [hx, hy]
        have hkq : P + (k : Int) ≤ b + (n : Int) := by
          rcases k with _ | k'
          · simpa using hPl
          · have h4 := unhide HALL k' (by omega)
            unfold There at h4
            rw [unhide HIX k' (by rw [unhide HL3]; omega)] at h4
            by_cases h6 : lastI ⟨b, t, l⟩ < P + 1 + (k' : Int)
            · rw [termAt_none (.inr h6)] at h4; cases h4
            · rw [unhide HI] at h6; omega
        obtain ⟨q, hq⟩ : ∃ q : Nat, P + (k : Int) = b + (q : Int) := ⟨(P + (k : Int) - b).toNat, by omega⟩
        have hqn : q ≤ n := by omega
        have hxq : P + 1 + (k : Int) = b + (q : Int) + 1 := by omega
        rw [hx, hxq] at h0
        rw [hxq] at HTH
        rw [← hy] at h1
        have HQX : Hid ((en0 E k).1 - 1 - b = (q : Int)) := by show _ = _; rw [hx]; omega
        subst h5
        have HS : Hid (∀ W, Below wr.heap.size wr W → W.cell? ⟨w.heap.size, 0, none⟩ = some (.int .i64 b) ∧ W.cell? ⟨w.heap.size, 1, none⟩ = some (.int .i64 t) ∧ W.cell? ⟨w.heap.size, 2, none⟩ = some (.slice ao n cap) ∧ W.cell? ⟨bb, off + k * 4, none⟩ = some (.int .i64 (b + (q : Int) + 1))) := fun W hW => by
          have h8 := (bx_slot ((unhide HXr).below hW)).1
          exact ⟨h8.1, h8.2.1, h8.2.2, (hW.cell (p := ⟨bb, off + k * 4, none⟩) (cell_lt h0)).trans h0⟩
        have HBD : Hid (Below wr.heap.size wr wr.drew) := below_drewN (Below.refl _ _) 1
        have hwq : IntKind.i64.wrap (b + (q : Int) + 1 - 1) = b + (q : Int) := by rw [IntKind.wrap_i64]; omega
        have hwq3 : IntKind.i64.wrap (b + (q : Int)) = b + (q : Int) := by rw [IntKind.wrap_i64]; omega
        clear hx hy hkq hq hxq hcc
        by_cases hth : termAt ⟨b, t, l⟩ (b + (q : Int) + 1) = some y
        · have HTV := hide hth
          have HALL2 : Hid (∀ j, j < k + 1 → There ⟨b, t, l⟩ (en0 E j)) := fun j hj => by
            rcases Nat.lt_succ_iff_lt_or_eq.1 hj with h4 | h4
            · exact unhide HALL j h4
            · rw [h4]; exact (unhide HTH).2 hth
          clear hth HTH
          go_wp2_with fail
          refine wp_region_noPanic ?_
          refine wp_region_held_drew (S := fun W => W.cell? ⟨w.heap.size, 0, none⟩ = some (.int .i64 b) ∧ W.cell? ⟨w.heap.size, 1, none⟩ = some (.int .i64 t) ∧ W.cell? ⟨w.heap.size, 2, none⟩ = some (.slice ao n cap) ∧ W.cell? ⟨bb, off + k * 4, none⟩ = some (.int .i64 (b + (q : Int) + 1))) (by kernel_rfl) ((unhide HS) _ (unhide HBD)) (fun hHeld => ?_)
          refine rtk 0 (h := ?_)
          refine rtk 1 (h := ?_)
          refine rtk 2 (h := ?_)
          refine rtk 3 (h := ?_)
          refine rtk 4 (h := ?_)
          refine rtk 5 (h := ?_)
          refine rcl 6 (h := fun K hK => ?_)
          go_simp
          refine (termP_any b t ao n cap l _ _ ((unhide HE).below (bnx (unhide HBr) (unhide HBD))) (unhide HM)).mono ?_
          rw [unhide HTV]
          unfold tmRes2
          rintro e wq ⟨rfl, hb⟩
          have HBrq : Hid (Below wr.heap.size wr wq) := bnx (unhide HBD) hb
          refine hK.out _ _ ((unhide HS) _ (unhide HBrq)) (fun hHeld2 => ?_)
          clear hK K hHeld hb
          refine rtk 7 (h := ?_)
          refine rtk 8 (h := ?_)
          refine rtk 9 (h := ?_)
          refine rcl 10 (h := fun K hK => ?_)
          go_simp
          refine hK.out _ _ hHeld2 (fun hHeld3 => ?_)
          clear hK K hHeld2
          refine rcl 11 (h := fun K hK => ?_)
          go_simp
          refine hK.out _ _ hHeld3 (fun hHeld4 => ?_)
          clear hK K hHeld3
          refine wpAnyH_done (by kernel_rfl) ?_ _
          refine NoPanic.normal ?_
          have HBq : Hid (Below w.heap.size w wq) := bnx (unhide HBr) (unhide HBrq)
          have HYq := hide ((unhide HYr).below (unhide HBrq))
          have hsq : w.heap.size + 2 ≤ wq.heap.size := by have := (unhide HBrq).size; omega
          have h1 : wq.cell? ⟨bb, off + k * 4 + 1, none⟩ = some (.int .i64 y) := ((unhide HBrq).cell (cell_lt h1)).trans h1
          have h0 : wq.cell? ⟨bb, off + k * 4, none⟩ = some (.int .i64 (b + (q : Int) + 1)) := ((unhide HBrq).cell (cell_lt h0)).trans h0
          clear hHeld4
          go_wp2
          go_roundw
          case rel => exact ⟨k + 1, by omega, by go_num, HALL2, bnx (unhide HBl) (unhide HBrq)⟩
          case measure => simp [intOf]; omega
        · obtain ⟨d2, hd2⟩ : ∃ d2, d2 = termAt ⟨b, t, l⟩ (b + (q : Int) + 1) := ⟨_, rfl⟩
          have HTV : Hid (termAt ⟨b, t, l⟩ (b + (q : Int) + 1) = d2) := hd2.symm
          have HNT : Hid (¬ There ⟨b, t, l⟩ (en0 E k)) := fun h => hth ((unhide HTH).1 h)
          have HRS : Hid (rr = ((splR ⟨b, t, l⟩ q (E.drop k)).1, false, (splR ⟨b, t, l⟩ q (E.drop k)).2)) := by
            show _ = _
            rw [unhide HRH, mgdR_off (by rw [unhide HL3]; exact hlt) (unhide HALL) (unhide HNT)]
            show ((splR _ ((en0 E k).1 - 1 - b).toNat _).1, false, (splR _ ((en0 E k).1 - 1 - b).toNat _).2) = _
            rw [unhide HQX, Int.toNat_natCast]
          clear HTH HNT HRH
          rw [← hd2] at hth
          clear hd2
          rcases d2 with _ | y2
          · clear hth
            go_wp2_with fail
            refine wp_region_noPanic ?_
            refine wp_region_held_drew (S := fun W => W.cell? ⟨w.heap.size, 0, none⟩ = some (.int .i64 b) ∧ W.cell? ⟨w.heap.size, 1, none⟩ = some (.int .i64 t) ∧ W.cell? ⟨w.heap.size, 2, none⟩ = some (.slice ao n cap) ∧ W.cell? ⟨bb, off + k * 4, none⟩ = some (.int .i64 (b + (q : Int) + 1))) (by kernel_rfl) ((unhide HS) _ (unhide HBD)) (fun hHeld => ?_)
            refine rtk 0 (h := ?_)
            refine rtk 1 (h := ?_)
            refine rtk 2 (h := ?_)
            refine rtk 3 (h := ?_)
            refine rtk 4 (h := ?_)
            refine rtk 5 (h := ?_)
            refine rcl 6 (h := fun K hK => ?_)
            go_simp
            refine (termP_any b t ao n cap l _ _ ((unhide HE).below (bnx (unhide HBr) (unhide HBD))) (unhide HM)).mono ?_
            rw [unhide HTV]
            unfold tmRes2
            rintro e wq ⟨rfl, hb⟩
            have HBrq : Hid (Below wr.heap.size wr wq) := bnx (unhide HBD) hb
            refine hK.out _ _ ((unhide HS) _ (unhide HBrq)) (fun hHeld2 => ?_)
            clear hK K hHeld hb
            refine rtk 7 (h := ?_)
            refine rtk 8 (h := ?_)
            refine rtk 9 (h := ?_)
            refine rcl 10 (h := fun K hK => ?_)
            go_simp
            refine hK.out _ _ hHeld2 (fun hHeld3 => ?_)
            clear hK K hHeld2
            refine rcl 11 (h := fun K hK => ?_)
            go_simp
            refine hK.out _ _ hHeld3 (fun hHeld4 => ?_)
            clear hK K hHeld3
            refine wpAnyH_done (by kernel_rfl) ?_ _
            refine NoPanic.normal ?_
            have HBq : Hid (Below w.heap.size w wq) := bnx (unhide HBr) (unhide HBrq)
            have HYq := hide ((unhide HYr).below (unhide HBrq))
            have hsq : w.heap.size + 2 ≤ wq.heap.size := by have := (unhide HBrq).size; omega
            have h1 : wq.cell? ⟨bb, off + k * 4 + 1, none⟩ = some (.int .i64 y) := ((unhide HBrq).cell (cell_lt h1)).trans h1
            have h0 : wq.cell? ⟨bb, off + k * 4, none⟩ = some (.int .i64 (b + (q : Int) + 1)) := ((unhide HBrq).cell (cell_lt h0)).trans h0
            clear hHeld4
            go_upto_region 19 with fail
            go_cut [17] from 20 to 119 (fun s17 wx => ∃ (R : Nat) (a : Option Addr) (nq c : Nat), s17 = .pointer (some ⟨R, 0, none⟩) ∧ Hid (Bx wx R [.int .i64 b, .int .i64 t, .slice a nq c] 25) ∧ Hid (OwnL wx wq.heap.size ⟨b, t, l.take q⟩ a nq c) ∧ Hid (Below wq.heap.size wq wx))
            case first =>
              refine wp_region_noPanic ?_
              have HBd : Hid (Below wq.heap.size wq wq.drew) := below_drewN (Below.refl _ _) 1
              refine wp_region_held_drew (S := fun W => W.cell? ⟨w.heap.size, 0, none⟩ = some (.int .i64 b) ∧ W.cell? ⟨w.heap.size, 1, none⟩ = some (.int .i64 t) ∧ W.cell? ⟨w.heap.size, 2, none⟩ = some (.slice ao n cap) ∧ W.cell? ⟨bb, off + k * 4, none⟩ = some (.int .i64 (b + (q : Int) + 1))) (by kernel_rfl) ((unhide HS) _ (bnx (unhide HBrq) (unhide HBd))) (fun hHeld => ?_)
              refine rtk 0 (h := ?_)
              refine rtk 1 (h := ?_)
              refine rtk 2 (h := ?_)
              refine rtk 3 (h := ?_)
              refine rtk 4 (h := ?_)
              refine rtk 5 (h := ?_)
              refine rtk 6 (h := ?_)
              generalize wq.drew = wd at HBd hHeld ⊢
              refine wpAnyH_ready (rs := [7, 8]) (by kernel_rfl) (by simp) (rac (h := fun K hK => ?_) (hs := rac (h := fun K hK => ?_) (hs := AllReadyH.nil)))
              · go_simp
                (try rw [hwq])
                (try rw [hwq3])
                refine (cutP_any b t ao n cap q l _ ((unhide HE).below (bnx (unhide HBr) (bnx (unhide HBrq) (unhide HBd)))) (by omega) hqn).mono ?_
                rintro e w2 ⟨⟨a, nq, c, rfl, HO⟩, HB2⟩
                have HBA2 : Hid (Below wq.heap.size wq w2) := bnx (unhide HBd) (unhide HB2)
                refine hK.out _ _ ((unhide HS) _ (bnx (unhide HBrq) (unhide HBA2))) (fun hHeld2 => ?_)
                clear hK K hHeld
                refine rcl 8 (h := fun K hK => ?_)
                go_simp
                refine hK.out _ _ ((unhide HS) _ (bnx (unhide HBrq) (bnx (unhide HBA2) ((Below.refl _ _).alloc (Nat.le_refl _) _)))) (fun hHeld3 => ?_)
                clear hK K hHeld2
                refine rcl 9 (h := fun K hK => ?_)
                go_simp
                refine hK.out _ _ ((unhide HS) _ (bnx (unhide HBrq) (bnx (unhide HBA2) ((Below.refl _ _).alloc (Nat.le_refl _) _)))) (fun hHeld4 => ?_)
                clear hK K hHeld3
                refine wpAnyH_done (by kernel_rfl) ?_ _
                refine NoPanic.normal ?_
                go_wp2_with fail
                go_meet
                case rel => exact ⟨_, _, _, _, rfl, Bx.new _ _ _ _ rfl, ((unhide HO).mono (unhide HBd).size).below ((Below.refl _ _).alloc (Nat.le_refl _) _), bnx (unhide HBA2) ((Below.refl _ _).alloc (Nat.le_refl _) _)⟩
              · go_simp
                have HBe : Hid (Below wq.heap.size wq (wd.alloc (.cells #[.int .i64 0, .int .i64 0, .slice none 0 0] 25))) := bnx (unhide HBd) ((Below.refl _ _).alloc (Nat.le_refl _) _)
                have HXe : Hid (Bx (wd.alloc (.cells #[.int .i64 0, .int .i64 0, .slice none 0 0] 25)) wd.heap.size [.int .i64 0, .int .i64 0, .slice none 0 0] 25) := Bx.new _ _ _ _ rfl
                have hse : (wd.alloc (.cells #[.int .i64 0, .int .i64 0, .slice none 0 0] 25)).heap.size = wd.heap.size + 1 := by simp
                have hsd : wq.heap.size ≤ wd.heap.size := (unhide HBd).size
                refine hK.out _ _ ((unhide HS) _ (bnx (unhide HBrq) (unhide HBe))) (fun hHeld2 => ?_)
                clear hK K hHeld
                generalize wd.alloc (.cells #[.int .i64 0, .int .i64 0, .slice none 0 0] 25) = we at HBe HXe hse hHeld2 ⊢
                refine rcl 7 (h := fun K hK => ?_)
                go_simp
                (try rw [hwq])
                (try rw [hwq3])
                refine (cutP_any b t ao n cap q l _ ((unhide HE).below (bnx (unhide HBr) (bnx (unhide HBrq) (unhide HBe)))) (by omega) hqn).mono ?_
                rintro e w2 ⟨⟨a, nq, c, rfl, HO⟩, HB2⟩
                have HBB2 : Hid (Below wq.heap.size wq w2) := bnx (unhide HBe) (unhide HB2)
                have HX2 := hide ((unhide HXe).below (unhide HB2))
                rw [hse] at HO
                refine hK.out _ _ ((unhide HS) _ (bnx (unhide HBrq) (unhide HBB2))) (fun hHeld3 => ?_)
                clear hK K hHeld2
                obtain ⟨⟨z0, z1, z2⟩, zf0, zf1, zf2⟩ := bx_slot (unhide HX2)
                refine rcl 9 (h := fun K hK => ?_)
                go_simp
                refine hK.out _ _ ((unhide HS) _ (bnx (unhide HBrq) (put3_below (unhide HBB2) hsd))) (fun hHeld4 => ?_)
                clear hK K hHeld3
                refine wpAnyH_done (by kernel_rfl) ?_ _
                refine NoPanic.normal ?_
                go_wp2_with fail
                go_meet
                case rel => exact ⟨_, _, _, _, rfl, put3_bx (unhide HX2) _ _ _, ((unhide HO).put3 (by omega)).mono (by omega), put3_below (unhide HBB2) hsd⟩
            case rest =>
            obtain ⟨wv, hwv⟩ : ∃ wv, wv = wc := ⟨_, rfl⟩
            subst hwv
            obtain ⟨R, a, nq, c, rfl, HXR, HO, HBx⟩ := hcut
            have hnq : q = nq := by
              have := (unhide HO).2.1
              rw [← this]
              show q = (l.take q).length
              rw [List.length_take, (unhide HE).1]; omega
            obtain rfl := hnq.symm
            have HBv : Hid (Below w.heap.size w wv) := bnx (unhide HBq) (unhide HBx)
            have HYv := hide ((unhide HYq).below (unhide HBx))
            have HBvv : Hid (Below wv.heap.size wv wv) := Below.refl _ _
            have HS2 : Hid (∀ W, Below wv.heap.size wv W → W.cell? ⟨R, 0, none⟩ = some (.int .i64 b) ∧ W.cell? ⟨R, 1, none⟩ = some (.int .i64 t) ∧ W.cell? ⟨R, 2, none⟩ = some (.slice a nq c)) := fun W hW => (bx_slot ((unhide HXR).below hW)).1
            obtain ⟨⟨x0, x1, x2⟩, _⟩ := bx_slot (unhide HXR)
            have hw5 : IntKind.i64.wrap ((nq : Int) + (m3 : Int)) = (nq : Int) + (m3 : Int) := by rw [IntKind.wrap_i64]; omega
            have hw6 : IntKind.i64.wrap ((nq : Int) + (m3 : Int) - (k : Int)) = (nq : Int) + (m3 : Int) - (k : Int) := by rw [IntKind.wrap_i64]; omega
            have hEL : (E.drop k).length = m3 - k := by rw [List.length_drop, unhide HL3]
            by_cases hf : 512 < nq + (m3 - k)
            · have hfi : (512 : Int) < (nq : Int) + (m3 : Int) - (k : Int) := by omega
              have HR9 : Hid (rr = (9, false, lo0)) := by
                show _ = _
                rw [unhide HRS]
                unfold splR
                rw [if_pos (by rw [hEL]; exact hf)]
              clear hEL hf
              obtain ⟨⟨y0, y1, y2⟩, f0, f1, f2⟩ := bx_slot (unhide HYv)
              go_upto_region 21 with fail
              repeat go_step
              refine bodyPost_ret (res_l4 (B := w.heap.size + 1) rfl rfl (put3_bx (unhide HYv) _ _ _)) rfl ?_
              rw [unhide HR9]
              exact ⟨⟨_, _, _, _, rfl, (OwnL.nil _ 0).es⟩, put3_below (unhide HBv) (by omega)⟩
            · have hfi : ¬ (512 : Int) < (nq : Int) + (m3 : Int) - (k : Int) := by omega
              obtain ⟨⟨x, ⟨lb, lt, le⟩⟩, hr⟩ : ∃ r, r = apR ⟨b, t, l.take nq⟩ (E.drop k) := ⟨_, rfl⟩
              have HAP : Hid (apR ⟨b, t, l.take nq⟩ (E.drop k) = (x, ⟨lb, lt, le⟩)) := hr.symm
              have HR9 : Hid (rr = (x, false, ⟨lb, lt, le⟩)) := by
                show _ = _
                rw [unhide HRS, ← spl_ap (L := ⟨b, t, l⟩) (unhide HM) (by show nq ≤ l.length; rw [(unhide HE).1]; exact hqn) (by rw [hEL]; exact hf)]
                show ((apR ⟨b, t, l.take nq⟩ (E.drop k)).1, false, (apR ⟨b, t, l.take nq⟩ (E.drop k)).2) = _
                rw [unhide HAP]
              have HMC : Hid (May ⟨b, t, l.take nq⟩) := by
                have := (unhide HM).cut (b + (nq : Int))
                unfold cutL at this
                rw [show (b + (nq : Int) - b).toNat = nq by omega] at this
                exact this
              clear hr hEL hf
              go_upto_region 22 with fail
              clear x0 x1 x2
              go_cut [18, 19] from 20 to 119 (fun s18 s19 wx => ∃ (R2 : Nat) (a5 : Option Addr) (n5 c5 : Nat), s18 = .pointer (some ⟨R2, 0, none⟩) ∧ s19 = .int .i64 x ∧ Hid (Bx wx R2 [.int .i64 lb, .int .i64 lt, .slice a5 n5 c5] 25) ∧ Hid (OwnL wx wv.heap.size ⟨lb, lt, le⟩ a5 n5 c5) ∧ Hid (Below wv.heap.size wv wx))
              case first =>
                refine wp_region_noPanic ?_
                have HBd : Hid (Below wv.heap.size wv wv.drew) := below_drewN (Below.refl _ _) 1
                refine wp_region_held_drew (S := fun W => W.cell? ⟨R, 0, none⟩ = some (.int .i64 b) ∧ W.cell? ⟨R, 1, none⟩ = some (.int .i64 t) ∧ W.cell? ⟨R, 2, none⟩ = some (.slice a nq c)) (by kernel_rfl) ((unhide HS2) _ (bnx (unhide HBvv) (unhide HBd))) (fun hHeld => ?_)
                refine rtk 0 (h := ?_)
                refine rtk 1 (h := ?_)
                refine rtk 2 (h := ?_)
                refine rtk 3 (v := .slice (hiA (some ⟨bb, off, none⟩) 4 c3 k) (m3 - k) (c3 - k)) (hy := Or.inl ⟨by rfl, fun W _ => ents_hi _ _ _ _ _ _ _ _ _ _ _ rfl rfl (by omega) W⟩) (h := ?_)
                generalize wv.drew = wd at HBd hHeld ⊢
                refine wpAnyH_ready (rs := [4, 8]) (by kernel_rfl) (by simp) (rac (h := fun K hK => ?_) (hs := rac (h := fun K hK => ?_) (hs := AllReadyH.nil)))
                · go_simp
                  refine (appP_any b t a nq c (l.take nq) (hiA (some ⟨bb, off, none⟩) 4 c3 k) (m3 - k) (c3 - k) (E.drop k) _ ((unhide HO).below (unhide HBd)).es (((unhide HE3).below (bnx (unhide HBv) (unhide HBd))).hi k hk) (unhide HMC)).mono ?_
                  rw [unhide HAP]
                  rintro e w2 ⟨⟨a5, n5, c5, rfl, HO5⟩, HB2⟩
                  have HBA2 : Hid (Below wv.heap.size wv w2) := bnx (unhide HBd) (unhide HB2)
                  refine hK.out _ _ ((unhide HS2) _ (bnx (unhide HBvv) (unhide HBA2))) (fun hHeld2 => ?_)
                  clear hK K hHeld
                  refine rtk 5 (h := ?_)
                  refine rtk 6 (h := ?_)
                  refine rtk 7 (h := ?_)
                  refine rcl 8 (h := fun K hK => ?_)
                  go_simp
                  refine hK.out _ _ ((unhide HS2) _ (bnx (unhide HBvv) (bnx (unhide HBA2) ((Below.refl _ _).alloc (Nat.le_refl _) _)))) (fun hHeld3 => ?_)
                  clear hK K hHeld2
                  refine rcl 9 (h := fun K hK => ?_)
                  go_simp
                  refine hK.out _ _ ((unhide HS2) _ (bnx (unhide HBvv) (bnx (unhide HBA2) ((Below.refl _ _).alloc (Nat.le_refl _) _)))) (fun hHeld4 => ?_)
                  clear hK K hHeld3
                  refine rcl 10 (h := fun K hK => ?_)
                  go_simp
                  refine hK.out _ _ hHeld4 (fun hHeld5 => ?_)
                  clear hK K
                  refine wpAnyH_done (by kernel_rfl) ?_ _
                  refine NoPanic.normal ?_
                  go_wp2_with fail
                  go_meet
                  case rel => exact ⟨_, _, _, _, rfl, rfl, Bx.new _ _ _ _ rfl, ((unhide HO5).mono (unhide HBd).size).below ((Below.refl _ _).alloc (Nat.le_refl _) _), bnx (unhide HBA2) ((Below.refl _ _).alloc (Nat.le_refl _) _)⟩
                · go_simp
                  have HBe : Hid (Below wv.heap.size wv (wd.alloc (.cells #[.int .i64 0, .int .i64 0, .slice none 0 0] 25))) := bnx (unhide HBd) ((Below.refl _ _).alloc (Nat.le_refl _) _)
                  have HXe : Hid (Bx (wd.alloc (.cells #[.int .i64 0, .int .i64 0, .slice none 0 0] 25)) wd.heap.size [.int .i64 0, .int .i64 0, .slice none 0 0] 25) := Bx.new _ _ _ _ rfl
                  have hse : (wd.alloc (.cells #[.int .i64 0, .int .i64 0, .slice none 0 0] 25)).heap.size = wd.heap.size + 1 := by simp
                  have hsd : wv.heap.size ≤ wd.heap.size := (unhide HBd).size
                  refine hK.out _ _ ((unhide HS2) _ (bnx (unhide HBvv) (unhide HBe))) (fun hHeld2 => ?_)
                  clear hK K hHeld
                  generalize wd.alloc (.cells #[.int .i64 0, .int .i64 0, .slice none 0 0] 25) = we at HBe HXe hse hHeld2 ⊢
                  refine rcl 4 (h := fun K hK => ?_)
                  go_simp
                  refine (appP_any b t a nq c (l.take nq) (hiA (some ⟨bb, off, none⟩) 4 c3 k) (m3 - k) (c3 - k) (E.drop k) _ ((unhide HO).below (unhide HBe)).es (((unhide HE3).below (bnx (unhide HBv) (unhide HBe))).hi k hk) (unhide HMC)).mono ?_
                  rw [unhide HAP]
                  rintro e w2 ⟨⟨a5, n5, c5, rfl, HO5⟩, HB2⟩
                  have HBB2 : Hid (Below wv.heap.size wv w2) := bnx (unhide HBe) (unhide HB2)
                  have HX2 := hide ((unhide HXe).below (unhide HB2))
                  rw [hse] at HO5
                  refine hK.out _ _ ((unhide HS2) _ (bnx (unhide HBvv) (unhide HBB2))) (fun hHeld3 => ?_)
                  clear hK K hHeld2
                  refine rtk 5 (h := ?_)
                  refine rtk 6 (h := ?_)
                  refine rtk 7 (h := ?_)
                  obtain ⟨⟨z0, z1, z2⟩, zf0, zf1, zf2⟩ := bx_slot (unhide HX2)
                  refine rcl 9 (h := fun K hK => ?_)
                  go_simp
                  refine hK.out _ _ ((unhide HS2) _ (bnx (unhide HBvv) (put3_below (unhide HBB2) hsd))) (fun hHeld4 => ?_)
                  clear hK K hHeld3
                  refine rcl 10 (h := fun K hK => ?_)
                  go_simp
                  refine hK.out _ _ hHeld4 (fun hHeld5 => ?_)
                  clear hK K
                  refine wpAnyH_done (by kernel_rfl) ?_ _
                  refine NoPanic.normal ?_
                  go_wp2_with fail
                  go_meet
                  case rel => exact ⟨_, _, _, _, rfl, rfl, put3_bx (unhide HX2) _ _ _, ((unhide HO5).put3 (by omega)).mono (by omega), put3_below (unhide HBB2) hsd⟩
              case rest =>
              obtain ⟨R2, a5, n5, c5, rfl, rfl, HX5, HO5, HB5⟩ := hcut
              have HBf : Hid (Below w.heap.size w wc) := bnx (unhide HBv) (unhide HB5)
              have HYf := hide ((unhide HYv).below (unhide HB5))
              have hsv : w.heap.size + 2 ≤ wv.heap.size := by have := (unhide HBx).size; omega
              obtain ⟨⟨x0, x1, x2⟩, _⟩ := bx_slot (unhide HX5)
              obtain ⟨⟨y0, y1, y2⟩, f0, f1, f2⟩ := bx_slot (unhide HYf)
              go_upto_region 23 with fail
              repeat go_step
              refine bodyPost_ret (res_l4 (B := w.heap.size + 1) rfl rfl (put3_bx (unhide HYf) _ _ _)) rfl ?_
              rw [unhide HR9]
              exact ⟨⟨_, _, _, _, rfl, ((unhide HO5).put3 (by omega)).es⟩, put3_below (unhide HBf) (by omega)⟩
          · have hyy : (y2 == y) = false := beq_eq_false_iff_ne.2 (fun e => hth (by rw [e]))
            clear hth
            go_wp2_with fail
            refine wp_region_noPanic ?_
            refine wp_region_held_drew (S := fun W => W.cell? ⟨w.heap.size, 0, none⟩ = some (.int .i64 b) ∧ W.cell? ⟨w.heap.size, 1, none⟩ = some (.int .i64 t) ∧ W.cell? ⟨w.heap.size, 2, none⟩ = some (.slice ao n cap) ∧ W.cell? ⟨bb, off + k * 4, none⟩ = some (.int .i64 (b + (q : Int) + 1))) (by kernel_rfl) ((unhide HS) _ (unhide HBD)) (fun hHeld => ?_)
            refine rtk 0 (h := ?_)
            refine rtk 1 (h := ?_)
            refine rtk 2 (h := ?_)
            refine rtk 3 (h := ?_)
            refine rtk 4 (h := ?_)
            refine rtk 5 (h := ?_)
            refine rcl 6 (h := fun K hK => ?_)
            go_simp
            refine (termP_any b t ao n cap l _ _ ((unhide HE).below (bnx (unhide HBr) (unhide HBD))) (unhide HM)).mono ?_
            rw [unhide HTV]
            unfold tmRes2
            rintro e wq ⟨rfl, hb⟩
            have HBrq : Hid (Below wr.heap.size wr wq) := bnx (unhide HBD) hb
            refine hK.out _ _ ((unhide HS) _ (unhide HBrq)) (fun hHeld2 => ?_)
            clear hK K hHeld hb
            refine rtk 7 (h := ?_)
            refine rtk 8 (h := ?_)
            refine rtk 9 (h := ?_)
            refine rcl 10 (h := fun K hK => ?_)
            go_simp
            refine hK.out _ _ hHeld2 (fun hHeld3 => ?_)
            clear hK K hHeld2
            refine rcl 11 (h := fun K hK => ?_)
            go_simp
            refine hK.out _ _ hHeld3 (fun hHeld4 => ?_)
            clear hK K hHeld3
            refine wpAnyH_done (by kernel_rfl) ?_ _
            refine NoPanic.normal ?_
            have HBq : Hid (Below w.heap.size w wq) := bnx (unhide HBr) (unhide HBrq)
            have HYq := hide ((unhide HYr).below (unhide HBrq))
            have hsq : w.heap.size + 2 ≤ wq.heap.size := by have := (unhide HBrq).size; omega
            have h1 : wq.cell? ⟨bb, off + k * 4 + 1, none⟩ = some (.int .i64 y) := ((unhide HBrq).cell (cell_lt h1)).trans h1
            have h0 : wq.cell? ⟨bb, off + k * 4, none⟩ = some (.int .i64 (b + (q : Int) + 1)) := ((unhide HBrq).cell (cell_lt h0)).trans h0
            clear hHeld4
            go_upto_region 19 with fail
            go_cut [17] from 20 to 119 (fun s17 wx => ∃ (R : Nat) (a : Option Addr) (nq c : Nat), s17 = .pointer (some ⟨R, 0, none⟩) ∧ Hid (Bx wx R [.int .i64 b, .int .i64 t, .slice a nq c] 25) ∧ Hid (OwnL wx wq.heap.size ⟨b, t, l.take q⟩ a nq c) ∧ Hid (Below wq.heap.size wq wx))
            case first =>
              refine wp_region_noPanic ?_
              have HBd : Hid (Below wq.heap.size wq wq.drew) := below_drewN (Below.refl _ _) 1
              refine wp_region_held_drew (S := fun W => W.cell? ⟨w.heap.size, 0, none⟩ = some (.int .i64 b) ∧ W.cell? ⟨w.heap.size, 1, none⟩ = some (.int .i64 t) ∧ W.cell? ⟨w.heap.size, 2, none⟩ = some (.slice ao n cap) ∧ W.cell? ⟨bb, off + k * 4, none⟩ = some (.int .i64 (b + (q : Int) + 1))) (by kernel_rfl) ((unhide HS) _ (bnx (unhide HBrq) (unhide HBd))) (fun hHeld => ?_)
              refine rtk 0 (h := ?_)
              refine rtk 1 (h := ?_)
              refine rtk 2 (h := ?_)
              refine rtk 3 (h := ?_)
              refine rtk 4 (h := ?_)
              refine rtk 5 (h := ?_)
              refine rtk 6 (h := ?_)
              generalize wq.drew = wd at HBd hHeld ⊢
              refine wpAnyH_ready (rs := [7, 8]) (by kernel_rfl) (by simp) (rac (h := fun K hK => ?_) (hs := rac (h := fun K hK => ?_) (hs := AllReadyH.nil)))
              · go_simp
                (try rw [hwq])
                (try rw [hwq3])
                refine (cutP_any b t ao n cap q l _ ((unhide HE).below (bnx (unhide HBr) (bnx (unhide HBrq) (unhide HBd)))) (by omega) hqn).mono ?_
                rintro e w2 ⟨⟨a, nq, c, rfl, HO⟩, HB2⟩
                have HBA2 : Hid (Below wq.heap.size wq w2) := bnx (unhide HBd) (unhide HB2)
                refine hK.out _ _ ((unhide HS) _ (bnx (unhide HBrq) (unhide HBA2))) (fun hHeld2 => ?_)
                clear hK K hHeld
                refine rcl 8 (h := fun K hK => ?_)
                go_simp
                refine hK.out _ _ ((unhide HS) _ (bnx (unhide HBrq) (bnx (unhide HBA2) ((Below.refl _ _).alloc (Nat.le_refl _) _)))) (fun hHeld3 => ?_)
                clear hK K hHeld2
                refine rcl 9 (h := fun K hK => ?_)
                go_simp
                refine hK.out _ _ ((unhide HS) _ (bnx (unhide HBrq) (bnx (unhide HBA2) ((Below.refl _ _).alloc (Nat.le_refl _) _)))) (fun hHeld4 => ?_)
                clear hK K hHeld3
                refine wpAnyH_done (by kernel_rfl) ?_ _
                refine NoPanic.normal ?_
                go_wp2_with fail
                go_meet
                case rel => exact ⟨_, _, _, _, rfl, Bx.new _ _ _ _ rfl, ((unhide HO).mono (unhide HBd).size).below ((Below.refl _ _).alloc (Nat.le_refl _) _), bnx (unhide HBA2) ((Below.refl _ _).alloc (Nat.le_refl _) _)⟩
              · go_simp
                have HBe : Hid (Below wq.heap.size wq (wd.alloc (.cells #[.int .i64 0, .int .i64 0, .slice none 0 0] 25))) := bnx (unhide HBd) ((Below.refl _ _).alloc (Nat.le_refl _) _)
                have HXe : Hid (Bx (wd.alloc (.cells #[.int .i64 0, .int .i64 0, .slice none 0 0] 25)) wd.heap.size [.int .i64 0, .int .i64 0, .slice none 0 0] 25) := Bx.new _ _ _ _ rfl
                have hse : (wd.alloc (.cells #[.int .i64 0, .int .i64 0, .slice none 0 0] 25)).heap.size = wd.heap.size + 1 := by simp
                have hsd : wq.heap.size ≤ wd.heap.size := (unhide HBd).size
                refine hK.out _ _ ((unhide HS) _ (bnx (unhide HBrq) (unhide HBe))) (fun hHeld2 => ?_)
                clear hK K hHeld
                generalize wd.alloc (.cells #[.int .i64 0, .int .i64 0, .slice none 0 0] 25) = we at HBe HXe hse hHeld2 ⊢
                refine rcl 7 (h := fun K hK => ?_)
                go_simp
                (try rw [hwq])
                (try rw [hwq3])
                refine (cutP_any b t ao n cap q l _ ((unhide HE).below (bnx (unhide HBr) (bnx (unhide HBrq) (unhide HBe)))) (by omega) hqn).mono ?_
                rintro e w2 ⟨⟨a, nq, c, rfl, HO⟩, HB2⟩
                have HBB2 : Hid (Below wq.heap.size wq w2) := bnx (unhide HBe) (unhide HB2)
                have HX2 := hide ((unhide HXe).below (unhide HB2))
                rw [hse] at HO
                refine hK.out _ _ ((unhide HS) _ (bnx (unhide HBrq) (unhide HBB2))) (fun hHeld3 => ?_)
                clear hK K hHeld2
                obtain ⟨⟨z0, z1, z2⟩, zf0, zf1, zf2⟩ := bx_slot (unhide HX2)
                refine rcl 9 (h := fun K hK => ?_)
                go_simp
                refine hK.out _ _ ((unhide HS) _ (bnx (unhide HBrq) (put3_below (unhide HBB2) hsd))) (fun hHeld4 => ?_)
                clear hK K hHeld3
                refine wpAnyH_done (by kernel_rfl) ?_ _
                refine NoPanic.normal ?_
                go_wp2_with fail
                go_meet
                case rel => exact ⟨_, _, _, _, rfl, put3_bx (unhide HX2) _ _ _, ((unhide HO).put3 (by omega)).mono (by omega), put3_below (unhide HBB2) hsd⟩
            case rest =>
            obtain ⟨wv, hwv⟩ : ∃ wv, wv = wc := ⟨_, rfl⟩
            subst hwv
            obtain ⟨R, a, nq, c, rfl, HXR, HO, HBx⟩ := hcut
            have hnq : q = nq := by
              have := (unhide HO).2.1
              rw [← this]
              show q = (l.take q).length
              rw [List.length_take, (unhide HE).1]; omega
            obtain rfl := hnq.symm
            have HBv : Hid (Below w.heap.size w wv) := bnx (unhide HBq) (unhide HBx)
            have HYv := hide ((unhide HYq).below (unhide HBx))
            have HBvv : Hid (Below wv.heap.size wv wv) := Below.refl _ _
            have HS2 : Hid (∀ W, Below wv.heap.size wv W → W.cell? ⟨R, 0, none⟩ = some (.int .i64 b) ∧ W.cell? ⟨R, 1, none⟩ = some (.int .i64 t) ∧ W.cell? ⟨R, 2, none⟩ = some (.slice a nq c)) := fun W hW => (bx_slot ((unhide HXR).below hW)).1
            obtain ⟨⟨x0, x1, x2⟩, _⟩ := bx_slot (unhide HXR)
            have hw5 : IntKind.i64.wrap ((nq : Int) + (m3 : Int)) = (nq : Int) + (m3 : Int) := by rw [IntKind.wrap_i64]; omega
            have hw6 : IntKind.i64.wrap ((nq : Int) + (m3 : Int) - (k : Int)) = (nq : Int) + (m3 : Int) - (k : Int) := by rw [IntKind.wrap_i64]; omega
            have hEL : (E.drop k).length = m3 - k := by rw [List.length_drop, unhide HL3]
            by_cases hf : 512 < nq + (m3 - k)
            · have hfi : (512 : Int) < (nq : Int) + (m3 : Int) - (k : Int) := by omega
              have HR9 : Hid (rr = (9, false, lo0)) := by
                show _ = _
                rw [unhide HRS]
                unfold splR
                rw [if_pos (by rw [hEL]; exact hf)]
              clear hEL hf
              obtain ⟨⟨y0, y1, y2⟩, f0, f1, f2⟩ := bx_slot (unhide HYv)
              go_upto_region 21 with fail
              repeat go_step
              refine bodyPost_ret (res_l4 (B := w.heap.size + 1) rfl rfl (put3_bx (unhide HYv) _ _ _)) rfl ?_
              rw [unhide HR9]
              exact ⟨⟨_, _, _, _, rfl, (OwnL.nil _ 0).es⟩, put3_below (unhide HBv) (by omega)⟩
            · have hfi : ¬ (512 : Int) < (nq : Int) + (m3 : Int) - (k : Int) := by omega
              obtain ⟨⟨x, ⟨lb, lt, le⟩⟩, hr⟩ : ∃ r, r = apR ⟨b, t, l.take nq⟩ (E.drop k) := ⟨_, rfl⟩
              have HAP : Hid (apR ⟨b, t, l.take nq⟩ (E.drop k) = (x, ⟨lb, lt, le⟩)) := hr.symm
              have HR9 : Hid (rr = (x, false, ⟨lb, lt, le⟩)) := by
                show _ = _
                rw [unhide HRS, ← spl_ap (L := ⟨b, t, l⟩) (unhide HM) (by show nq ≤ l.length; rw [(unhide HE).1]; exact hqn) (by rw [hEL]; exact hf)]
                show ((apR ⟨b, t, l.take nq⟩ (E.drop k)).1, false, (apR ⟨b, t, l.take nq⟩ (E.drop k)).2) = _
                rw [unhide HAP]
              have HMC : Hid (May ⟨b, t, l.take nq⟩) := by
                have := (unhide HM).cut (b + (nq : Int))
                unfold cutL at this
                rw [show (b + (nq : Int) - b).toNat = nq by omega] at this
                exact this
              clear hr hEL hf
              go_upto_region 22 with fail
              clear x0 x1 x2
              go_cut [18, 19] from 20 to 119 (fun s18 s19 wx => ∃ (R2 : Nat) (a5 : Option Addr) (n5 c5 : Nat), s18 = .pointer (some ⟨R2, 0, none⟩) ∧ s19 = .int .i64 x ∧ Hid (Bx wx R2 [.int .i64 lb, .int .i64 lt, .slice a5 n5 c5] 25) ∧ Hid (OwnL wx wv.heap.size ⟨lb, lt, le⟩ a5 n5 c5) ∧ Hid (Below wv.heap.size wv wx))
              case first =>
                refine wp_region_noPanic ?_
                have HBd : Hid (Below wv.heap.size wv wv.drew) := below_drewN (Below.refl _ _) 1
                refine wp_region_held_drew (S := fun W => W.cell? ⟨R, 0, none⟩ = some (.int .i64 b) ∧ W.cell? ⟨R, 1, none⟩ = some (.int .i64 t) ∧ W.cell? ⟨R, 2, none⟩ = some (.slice a nq c)) (by kernel_rfl) ((unhide HS2) _ (bnx (unhide HBvv) (unhide HBd))) (fun hHeld => ?_)
                refine rtk 0 (h := ?_)
                refine rtk 1 (h := ?_)
                refine rtk 2 (h := ?_)
                refine rtk 3 (v := .slice (hiA (some ⟨bb, off, none⟩) 4 c3 k) (m3 - k) (c3 - k)) (hy := Or.inl ⟨by rfl, fun W _ => ents_hi _ _ _ _ _ _ _ _ _ _ _ rfl rfl (by omega) W⟩) (h := ?_)
                generalize wv.drew = wd at HBd hHeld ⊢
                refine wpAnyH_ready (rs := [4, 8]) (by kernel_rfl) (by simp) (rac (h := fun K hK => ?_) (hs := rac (h := fun K hK => ?_) (hs := AllReadyH.nil)))
                · go_simp
                  refine (appP_any b t a nq c (l.take nq) (hiA (some ⟨bb, off, none⟩) 4 c3 k) (m3 - k) (c3 - k) (E.drop k) _ ((unhide HO).below (unhide HBd)).es (((unhide HE3).below (bnx (unhide HBv) (unhide HBd))).hi k hk) (unhide HMC)).mono ?_
                  rw [unhide HAP]
                  rintro e w2 ⟨⟨a5, n5, c5, rfl, HO5⟩, HB2⟩
                  have HBA2 : Hid (Below wv.heap.size wv w2) := bnx (unhide HBd) (unhide HB2)
                  refine hK.out _ _ ((unhide HS2) _ (bnx (unhide HBvv) (unhide HBA2))) (fun hHeld2 => ?_)
                  clear hK K hHeld
                  refine rtk 5 (h := ?_)
                  refine rtk 6 (h := ?_)
                  refine rtk 7 (h := ?_)
                  refine rcl 8 (h := fun K hK => ?_)
                  go_simp
                  refine hK.out _ _ ((unhide HS2) _ (bnx (unhide HBvv) (bnx (unhide HBA2) ((Below.refl _ _).alloc (Nat.le_refl _) _)))) (fun hHeld3 => ?_)
                  clear hK K hHeld2
                  refine rcl 9 (h := fun K hK => ?_)
                  go_simp
                  refine hK.out _ _ ((unhide HS2) _ (bnx (unhide HBvv) (bnx (unhide HBA2) ((Below.refl _ _).alloc (Nat.le_refl _) _)))) (fun hHeld4 => ?_)
                  clear hK K hHeld3
                  refine rcl 10 (h := fun K hK => ?_)
                  go_simp
                  refine hK.out _ _ hHeld4 (fun hHeld5 => ?_)
                  clear hK K
                  refine wpAnyH_done (by kernel_rfl) ?_ _
                  refine NoPanic.normal ?_
                  go_wp2_with fail
                  go_meet
                  case rel => exact ⟨_, _, _, _, rfl, rfl, Bx.new _ _ _ _ rfl, ((unhide HO5).mono (unhide HBd).size).below ((Below.refl _ _).alloc (Nat.le_refl _) _), bnx (unhide HBA2) ((Below.refl _ _).alloc (Nat.le_refl _) _)⟩
                · go_simp
                  have HBe : Hid (Below wv.heap.size wv (wd.alloc (.cells #[.int .i64 0, .int .i64 0, .slice none 0 0] 25))) := bnx (unhide HBd) ((Below.refl _ _).alloc (Nat.le_refl _) _)
                  have HXe : Hid (Bx (wd.alloc (.cells #[.int .i64 0, .int .i64 0, .slice none 0 0] 25)) wd.heap.size [.int .i64 0, .int .i64 0, .slice none 0 0] 25) := Bx.new _ _ _ _ rfl
                  have hse : (wd.alloc (.cells #[.int .i64 0, .int .i64 0, .slice none 0 0] 25)).heap.size = wd.heap.size + 1 := by simp
                  have hsd : wv.heap.size ≤ wd.heap.size := (unhide HBd).size
                  refine hK.out _ _ ((unhide HS2) _ (bnx (unhide HBvv) (unhide HBe))) (fun hHeld2 => ?_)
                  clear hK K hHeld
                  generalize wd.alloc (.cells #[.int .i64 0, .int .i64 0, .slice none 0 0] 25) = we at HBe HXe hse hHeld2 ⊢
                  refine rcl 4 (h := fun K hK => ?_)
                  go_simp
                  refine (appP_any b t a nq c (l.take nq) (hiA (some ⟨bb, off, none⟩) 4 c3 k) (m3 - k) (c3 - k) (E.drop k) _ ((unhide HO).below (unhide HBe)).es (((unhide HE3).below (bnx (unhide HBv) (unhide HBe))).hi k hk) (unhide HMC)).mono ?_
                  rw [unhide HAP]
                  rintro e w2 ⟨⟨a5, n5, c5, rfl, HO5⟩, HB2⟩
                  have HBB2 : Hid (Below wv.heap.size wv w2) := bnx (unhide HBe) (unhide HB2)
                  have HX2 := hide ((unhide HXe).below (unhide HB2))
                  rw [hse] at HO5
                  refine hK.out _ _ ((unhide HS2) _ (bnx (unhide HBvv) (unhide HBB2))) (fun hHeld3 => ?_)
                  clear hK K hHeld2
                  refine rtk 5 (h := ?_)
                  refine rtk 6 (h := ?_)
                  refine rtk 7 (h := ?_)
                  obtain ⟨⟨z0, z1, z2⟩, zf0, zf1, zf2⟩ := bx_slot (unhide HX2)
                  refine rcl 9 (h := fun K hK => ?_)
                  go_simp
                  refine hK.out _ _ ((unhide HS2) _ (bnx (unhide HBvv) (put3_below (unhide HBB2) hsd))) (fun hHeld4 => ?_)
                  clear hK K hHeld3
                  refine rcl 10 (h := fun K hK => ?_)
                  go_simp
                  refine hK.out _ _ hHeld4 (fun hHeld5 => ?_)
                  clear hK K
                  refine wpAnyH_done (by kernel_rfl) ?_ _
                  refine NoPanic.normal ?_
                  go_wp2_with fail
                  go_meet
                  case rel => exact ⟨_, _, _, _, rfl, rfl, put3_bx (unhide HX2) _ _ _, ((unhide HO5).put3 (by omega)).mono (by omega), put3_below (unhide HBB2) hsd⟩
              case rest =>
              obtain ⟨R2, a5, n5, c5, rfl, rfl, HX5, HO5, HB5⟩ := hcut
              have HBf : Hid (Below w.heap.size w wc) := bnx (unhide HBv) (unhide HB5)
              have HYf := hide ((unhide HYv).below (unhide HB5))
              have hsv : w.heap.size + 2 ≤ wv.heap.size := by have := (unhide HBx).size; omega
              obtain ⟨⟨x0, x1, x2⟩, _⟩ := bx_slot (unhide HX5)
              obtain ⟨⟨y0, y1, y2⟩, f0, f1, f2⟩ := bx_slot (unhide HYf)
              go_upto_region 23 with fail
              repeat go_step
              refine bodyPost_ret (res_l4 (B := w.heap.size + 1) rfl rfl (put3_bx (unhide HYf) _ _ _)) rfl ?_
              rw [unhide HR9]
              exact ⟨⟨_, _, _, _, rfl, ((unhide HO5).put3 (by omega)).es⟩, put3_below (unhide HBf) (by omega)⟩
      · obtain rfl : m3 = k := by omega
        have HR0 : Hid (rr = (0, false, ⟨b, t, l⟩)) := by
          show _ = _
          rw [unhide HRH, mgdR_all (by rw [unhide HL3]; exact unhide HALL)]
        obtain ⟨⟨c0, c1, c2⟩, _⟩ := bx_slot (unhide HXr)
        obtain ⟨⟨y0, y1, y2⟩, f0, f1, f2⟩ := bx_slot (unhide HYr)
        go_upto_region 24 with fail
        repeat go_step
        refine bodyPost_ret (res_l4 (B := w.heap.size + 1) rfl rfl (put3_bx (unhide HYr) _ _ _)) rfl ?_
        rw [unhide HR0]
        exact ⟨⟨0, _, _, _, rfl, es_put (unhide HE) (unhide HBr) (by omega)⟩, put3_below (unhide HBr) (by omega)⟩
  · have HR0 : Hid (rr = (0, true, ⟨b, t, l⟩)) := by
      show _ = _
      rw [unhide HRR, mrgR_miss ⟨unhide HM, unhide HMG⟩ (by rw [← unhide HP, ← unhide HU, ← unhide HD]; exact hdu)]
    clear HP HU HEE HRR HIX HMG
    rcases d with _ | y
    · go_wp2_with fail
      refine (unhide HTC).mono ?_
      rintro e w1 ⟨rfl, hb⟩
      have HB1 : Hid (Below w.heap.size w w1) := bnx (unhide HB0) hb
      have HX1 := hide ((unhide HX0).below hb)
      have HY1 := hide ((unhide HY0).below hb)
      clear hb HX0 HY0 hs0 HB0 HTC c0 c1 c2
      unfold tmRes2
      obtain ⟨⟨c0, c1, c2⟩, _⟩ := bx_slot (unhide HX1)
      obtain ⟨⟨y0, y1, y2⟩, f0, f1, f2⟩ := bx_slot (unhide HY1)
      go_wp2
      refine bodyPost_ret (res_l4 (B := w.heap.size + 1) rfl rfl (put3_bx (unhide HY1) _ _ _)) rfl ?_
      rw [unhide HR0]
      exact ⟨⟨0, _, _, _, rfl, es_put (unhide HE) (unhide HB1) (by omega)⟩, put3_below (unhide HB1) (by omega)⟩
    · have hyu : (y == U) = false := beq_eq_false_iff_ne.2 (fun e => hdu (by rw [e]))
      clear hdu
      go_wp2_with fail
      refine (unhide HTC).mono ?_
      rintro e w1 ⟨rfl, hb⟩
      have HB1 : Hid (Below w.heap.size w w1) := bnx (unhide HB0) hb
      have HX1 := hide ((unhide HX0).below hb)
      have HY1 := hide ((unhide HY0).below hb)
      clear hb HX0 HY0 hs0 HB0 HTC c0 c1 c2
      unfold tmRes2
      obtain ⟨⟨c0, c1, c2⟩, _⟩ := bx_slot (unhide HX1)
      obtain ⟨⟨y0, y1, y2⟩, f0, f1, f2⟩ := bx_slot (unhide HY1)
      go_wp2
      refine bodyPost_ret (res_l4 (B := w.heap.size + 1) rfl rfl (put3_bx (unhide HY1) _ _ _)) rfl ?_
      rw [unhide HR0]
      exact ⟨⟨0, _, _, _, rfl, es_put (unhide HE) (unhide HB1) (by omega)⟩, put3_below (unhide HB1) (by omega)⟩
end Go.Proofs.YtcffbkgkdoaplaaDoor.Et
