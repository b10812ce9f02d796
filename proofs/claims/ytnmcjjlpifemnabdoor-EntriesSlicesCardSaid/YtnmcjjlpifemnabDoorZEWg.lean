/- Proved here: the walk of dovecotelaw15.EntriesSlices: whatever logs it is handed, it returns true. Helper contract. -/
import Derived.Test.YtnmcjjlpifemnabDoorZEOk
import Derived.Test.YtnmcjjlpifemnabDoorZESc
import Derived.Test.YtnmcjjlpifemnabDoorZKTk
import Derived.Deep.Cut
import Derived.Deep.CutRange
namespace Go.Proofs.YtnmcjjlpifemnabDoor.Et
open Go.RowKit Nt
set_option maxRecDepth 100000

theorem take_more (l : List En) (q m : Nat) : l.take q ++ (l.drop q).take m = l.take (q + m) := by rw [List.take_add]
theorem min_take (l : List En) (q N m n1 : Nat) (h : l.length = n1) (hm : m = min N (n1 - q)) : (l.drop q).take N = (l.drop q).take m := by
  by_cases hN : N ≤ n1 - q
  · rw [show m = N by omega]
  · rw [List.take_of_length_le (i := N) (by rw [List.length_drop]; omega), List.take_of_length_le (i := m) (by rw [List.length_drop]; omega)]
set_option maxHeartbeats 8000000 in
theorem slis15_walk (g off len cap : Nat) (f : Nat → Ak) (w : World) (hg : Laid w) (ha : AksIn w g off f len) :
    Calls Tryd.prog 4 #[.slice (some ⟨g, off, none⟩) len cap] w fun e w' => e = .returned (.bool true) ∧ Below w.heap.size w w' := by
  obtain ⟨i0, hi, hz0, hz1, hz2⟩ := info_parts infoEnt
  have HA := hide ha
  have HG := hide hg
  clear ha hg
  go_enter Tryd.func4, Tryd.ntmps4
  go_wp2
  go_loopw [3] (fun ii wr => ∃ k : Nat, k ≤ len ∧ ii = .int .i64 k ∧ Hid (Below w.heap.size w wr)) (fun ii _ => len - (intOf ii).toNat)
  case atStart => exact ⟨0, Nat.zero_le _, rfl, Below.refl _ _⟩
  case round =>
    obtain ⟨k, hk, rfl, HB⟩ := hrel
    by_cases h8 : k < len ∧ k < 8
    · obtain ⟨hlt, h8⟩ := h8
      obtain ⟨⟨q0, q1, q2, q3, q4, q5, q6⟩, hl1, hl2⟩ := (unhide HA) k hlt
      generalize f k = ak at q0 q1 q2 q3 q4 q5 q6 hl1 hl2
      obtain ⟨b, t, ⟨a1, n1, p1⟩, l1, i, tt, ⟨a2, n2, p2⟩, l2, kk⟩ := ak
      dsimp only at q0 q1 q2 q3 q4 q5 q6 hl1 hl2
      have HC : Hid (∀ W, Below w.heap.size w W → W.cell? ⟨g, off + k * 7, none⟩ = some (.int .i64 b) ∧ W.cell? ⟨g, off + k * 7 + 1, none⟩ = some (.int .i64 t) ∧ W.cell? ⟨g, off + k * 7 + 2, none⟩ = some (.slice a1 n1 p1) ∧ W.cell? ⟨g, off + k * 7 + 3, none⟩ = some (.int .i64 i) ∧ W.cell? ⟨g, off + k * 7 + 4, none⟩ = some (.int .i64 tt) ∧ W.cell? ⟨g, off + k * 7 + 5, none⟩ = some (.slice a2 n2 p2) ∧ W.cell? ⟨g, off + k * 7 + 6, none⟩ = some (.int .i64 kk)) := fun W hW =>
        ⟨(hW.cell (p := ⟨g, off + k * 7, none⟩) (cell_lt q0)).trans q0, (hW.cell (p := ⟨g, off + k * 7 + 1, none⟩) (cell_lt q1)).trans q1, (hW.cell (p := ⟨g, off + k * 7 + 2, none⟩) (cell_lt q2)).trans q2, (hW.cell (p := ⟨g, off + k * 7 + 3, none⟩) (cell_lt q3)).trans q3, (hW.cell (p := ⟨g, off + k * 7 + 4, none⟩) (cell_lt q4)).trans q4, (hW.cell (p := ⟨g, off + k * 7 + 5, none⟩) (cell_lt q5)).trans q5, (hW.cell (p := ⟨g, off + k * 7 + 6, none⟩) (cell_lt q6)).trans q6⟩
      have H1 := hide hl1
      have H2 := hide hl2
      have hn1 := hl1.2.2.2.1
      clear q0 q1 q2 q3 q4 q5 q6 hl1 hl2
      obtain ⟨q0, q1, q2, q3, q4, q5, q6⟩ := (unhide HC) _ (unhide HB)
      go_wp2_with fail
      refine (ok_any b t i tt kk a1 a2 n1 p1 n2 p2 l1 l2 _ ((unhide H1).below (unhide HB)) ((unhide H2).below (unhide HB))).mono ?_
      rintro e w1 ⟨⟨d, rfl, hd⟩, hb⟩
      have HB1 : Hid (Below w.heap.size w w1) := bnx (unhide HB) hb
      clear hb q0 q1 q2 q3 q4 q5 q6
      cases d
      · clear hd
        go_wp2
        go_roundw
        case rel => exact ⟨k + 1, by omega, by go_num, HB1⟩
        case measure => simp [intOf]; omega
      · obtain ⟨hm, hn2, _⟩ := hd rfl
        clear hd
        have HM := hide hm
        have hb1 : 0 ≤ b := hm.1.1
        have hb2 : b ≤ 1099511625728 := hm.1.2.1
        have HI : Hid (lastI ⟨b, t, l1⟩ = b + (n1 : Int)) := by
          show _ = _
          unfold lastI
          rw [(unhide H1).1]
        have HL1 := hide (unhide H1).1
        clear hm
        obtain ⟨z, hz⟩ : ∃ z, z = IntKind.i64.wrap (kk + 1) := ⟨_, rfl⟩
        have hzr := Int.tmod_lt_of_pos z (by decide : (0 : Int) < 4)
        have hzl : -4 < Int.tmod z 4 := by
          have := Int.tmod_lt_of_pos (-z) (by decide : (0 : Int) < 4)
          rw [Int.neg_tmod] at this
          omega
        obtain ⟨y, hy⟩ : ∃ y, y = Int.tmod z 4 := ⟨_, rfl⟩
        rw [← hy] at hzr hzl
        have hwy : IntKind.i64.wrap (1 + y) = 1 + y := by rw [IntKind.wrap_i64]; omega
        have HY := hide hy
        have HZ := hide hz
        obtain ⟨q0, q1, q2, q3, q4, q5, q6⟩ := (unhide HC) _ (unhide HB1)
        have hz' : IntKind.i64.wrap (kk + 1) = z := hz.symm
        have hy' : Int.tmod z 4 = y := hy.symm
        clear hy hz
        go_upto_if 39 with fail
        clear q0 q1 q2 q3 q4 q5 q6
        go_cut [4] from 24 to 134 (fun s4 wx => ∃ N : Nat, 1 ≤ N ∧ N ≤ 4 ∧ s4 = .int .i64 (N : Int) ∧ wx = w1)
        case first =>
          by_cases hy1 : 1 + y < 1
          · go_wp2
            go_meet
            case rel => exact ⟨1, by omega, by omega, by simp, rfl⟩
          · go_wp2
            go_meet
            case rel => exact ⟨(1 + y).toNat, by omega, by omega, by rw [Int.toNat_of_nonneg (by omega)], rfl⟩
        case rest =>
          obtain ⟨N, hN1, hN4, rfl, hwc⟩ := hcut
          obtain rfl := hwc.symm
          clear hz' hy' HY HZ hzr hzl hwy
          obtain ⟨wo, hwo⟩ : ∃ wo, wo = wr := ⟨_, rfl⟩
          subst hwo
          obtain ⟨q0, q1, q2, q3, q4, q5, q6⟩ := (unhide HC) _ (unhide HB1)
          have hwb : IntKind.i64.wrap (b + 1) = b + 1 := by rw [IntKind.wrap_i64]; omega
          go_wp2
          clear q0 q1 q2 q3 q4 q5 q6
          go_loopw [5, 6, 7] (fun va aa jj wr => ∃ (q j : Nat), q ≤ n1 ∧ j ≤ q ∧ jj = .int .i64 (j : Int) ∧ aa = .int .i64 (b + 1 + (q : Int)) ∧ Hid (wr.ownsRow w1.heap.size 55 4 va q (ecs (l1.take q))) ∧ Hid (Below w1.heap.size w1 wr)) (fun _ _ jj _ => n1 + 1 - (intOf jj).toNat)
          case atStart => exact ⟨0, 0, by omega, by omega, by simp, by simp, World.ownsRow_nil _ _ _ _, Below.refl _ _⟩
          case round =>
            obtain ⟨q, j, hq, hjq, rfl, rfl, HO, HB3⟩ := hrel
            have HB4 : Hid (Below w.heap.size w wr) := bnx (unhide HB1) (unhide HB3)
            obtain ⟨m, hmm⟩ : ∃ m, m = min N (n1 - q) := ⟨_, rfl⟩
            have HR : Hid (chkS ⟨b, t, l1⟩ (partR ⟨b, t, l1⟩ (b + 1 + (q : Int)) (N : Int)) = (0, (l1.drop q).take m)) := by
              show _ = _
              rw [chkS_ok (unhide HM), partR_yes (L := ⟨b, t, l1⟩) (by rw [unhide HI]; exact ⟨by show b < _; omega, by omega⟩) (by omega)]
              unfold partL
              show ((0 : Int), (l1.drop (b + 1 + (q : Int) - b - 1).toNat).take (N : Int).toNat) = _
              rw [show (b + 1 + (q : Int) - b - 1).toNat = q by omega, Int.toNat_natCast, min_take l1 q N m n1 (unhide HL1) hmm]
            have HLM : Hid (((l1.drop q).take m).length = m) := by
              show _ = _
              rw [List.length_take, List.length_drop, unhide HL1]; omega
            have hmN : m ≤ N := by omega
            have hm0 : m = 0 ↔ q = n1 := by omega
            have hmq : q + m ≤ n1 := by omega
            clear hmm
            obtain ⟨q0, q1, q2, q3, q4, q5, q6⟩ := (unhide HC) _ (unhide HB4)
            go_wp2_with fail
            refine (sliE_any b t a1 n1 p1 l1 _ _ _ ((unhide H1).below (unhide HB4))).mono ?_
            rw [unhide HR]
            rintro e w5 ⟨⟨E, ap, mm, c, rfl, HP, HE⟩, HBn⟩
            have hmm : mm = m := (unhide HP).2.1.symm.trans (unhide HLM)
            subst hmm
            have HB5 : Hid (Below w.heap.size w w5) := bnx (unhide HB4) (unhide HBn)
            have HB5' : Hid (Below w1.heap.size w1 w5) := bnx (unhide HB3) (unhide HBn)
            have HO5 := hide (owns_below (unhide HO) (unhide HBn))
            clear HBn HO q0 q1 q2 q3 q4 q5 q6
            go_wp2_with fail
            refine (num_err E 0 _ ((unhide HG).below (unhide HB5) (unhide HG).pos) (unhide HE).errX).mono ?_
            rintro e w6 ⟨rfl, hb⟩
            have HB6 : Hid (Below w.heap.size w w6) := bnx (unhide HB5) hb
            have HB6' : Hid (Below w1.heap.size w1 w6) := bnx (unhide HB5') hb
            have HO6 := hide (owns_below (unhide HO5) hb)
            have HP6 := hide ((unhide HP).below hb)
            clear hb HE HO5 HP
            by_cases hmz : mm = 0
            · have hqn : n1 = q := (hm0.1 hmz).symm
              subst hmz hqn
              have HT : Hid (l1.take n1 = l1) := List.take_of_length_le (Nat.le_of_eq (unhide HL1))
              rw [unhide HT] at HO6
              obtain ⟨aal, cal, hva, HES⟩ := Es.own (unhide HO6) (unhide HL1) (by omega)
              have HESh := hide HES
              have HRN : Hid (chkS ⟨b, t, l1⟩ (partR ⟨b, t, l1⟩ (b + 1 + (n1 : Int) + 1) (N : Int)) = (8, [])) := by
                show _ = _
                rw [chkS_ok (unhide HM), partR_none (L := ⟨b, t, l1⟩) (by rw [unhide HI]; show ¬ (b < _ ∧ _); omega)]
              have HRB : Hid (chkS ⟨b, t, l1⟩ (partR ⟨b, t, l1⟩ b (N : Int)) = (8, [])) := by
                show _ = _
                rw [chkS_ok (unhide HM), partR_none (L := ⟨b, t, l1⟩) (by show ¬ (b < b ∧ _); omega)]
              have hwn : IntKind.i64.wrap (b + 1 + (n1 : Int) + 1) = b + 1 + (n1 : Int) + 1 := by rw [IntKind.wrap_i64]; omega
              clear HES hm0 HO6 HP6 HR HLM
              obtain ⟨q0, q1, q2, q3, q4, q5, q6⟩ := (unhide HC) _ (unhide HB6)
              go_wp2_with fail
              refine (sliE_any b t a1 n1 p1 l1 _ _ _ ((unhide H1).below (unhide HB6))).mono ?_
              rw [unhide HRN]
              rintro e w7 ⟨⟨E7, ap7, m7, c7, rfl, HP7, HE7⟩, HBn⟩
              have HB7 : Hid (Below w.heap.size w w7) := bnx (unhide HB6) (unhide HBn)
              have HES7 := hide ((unhide HESh).below (unhide HBn))
              clear HBn HESh q0 q1 q2 q3 q4 q5 q6
              have HC7 : Hid (∀ W, Below w7.heap.size w7 W → W.cell? ⟨g, off + k * 7, none⟩ = some (.int .i64 b) ∧ W.cell? ⟨g, off + k * 7 + 1, none⟩ = some (.int .i64 t) ∧ W.cell? ⟨g, off + k * 7 + 2, none⟩ = some (.slice a1 n1 p1) ∧ W.cell? ⟨g, off + k * 7 + 3, none⟩ = some (.int .i64 i) ∧ W.cell? ⟨g, off + k * 7 + 4, none⟩ = some (.int .i64 tt) ∧ W.cell? ⟨g, off + k * 7 + 5, none⟩ = some (.slice a2 n2 p2) ∧ W.cell? ⟨g, off + k * 7 + 6, none⟩ = some (.int .i64 kk)) := fun W hW => (unhide HC) _ (bnx (unhide HB7) hW)
              go_upto_region 20 with fail
              go_cut [12, 13] from 14 to 134 (fun s12 s13 wx => ∃ (va : Value) (E : Value), s12 = va ∧ s13 = E ∧ Hid (ErrX wx E 8) ∧ Hid (Below w7.heap.size w7 wx))
              case first =>
                refine wp_region_noPanic ?_
                have HBd : Hid (Below w7.heap.size w7 w7.drew) := below_drewN (Below.refl _ _) 1
                refine wp_region_held_drew (S := fun W => W.cell? ⟨g, off + k * 7, none⟩ = some (.int .i64 b) ∧ W.cell? ⟨g, off + k * 7 + 1, none⟩ = some (.int .i64 t) ∧ W.cell? ⟨g, off + k * 7 + 2, none⟩ = some (.slice a1 n1 p1) ∧ W.cell? ⟨g, off + k * 7 + 3, none⟩ = some (.int .i64 i) ∧ W.cell? ⟨g, off + k * 7 + 4, none⟩ = some (.int .i64 tt) ∧ W.cell? ⟨g, off + k * 7 + 5, none⟩ = some (.slice a2 n2 p2) ∧ W.cell? ⟨g, off + k * 7 + 6, none⟩ = some (.int .i64 kk)) (by kernel_rfl) ((unhide HC7) _ (unhide HBd)) (fun hHeld => ?_)
                refine rtk 0 (h := ?_)
                refine rtk 1 (h := ?_)
                refine rtk 2 (h := ?_)
                refine rtk 3 (h := ?_)
                refine rtk 4 (h := ?_)
                refine rtk 5 (h := ?_)
                refine rtk 6 (h := ?_)
                refine rtk 7 (h := ?_)
                refine rtk 8 (h := ?_)
                refine rtk 9 (h := ?_)
                refine rtk 10 (h := ?_)
                refine rtk 11 (h := ?_)
                refine rcl 12 (h := fun K hK => ?_)
                go_simp
                refine (sliE_any b t a1 n1 p1 l1 _ _ _ ((unhide H1).below (bnx (unhide HB7) (unhide HBd)))).mono ?_
                rw [unhide HRB]
                rintro e w8 ⟨⟨E8, ap8, m8, c8, rfl, HP8, HE8⟩, HBn⟩
                have HBe : Hid (Below w7.heap.size w7 w8) := bnx (unhide HBd) (unhide HBn)
                refine hK.out _ _ ((unhide HC7) _ (unhide HBe)) (fun hHeld2 => ?_)
                clear hK K hHeld
                refine rtk 13 (h := ?_)
                refine rtk 14 (h := ?_)
                refine rtk 15 (h := ?_)
                refine rcl 16 (h := fun K hK => ?_)
                go_simp
                refine hK.out _ _ hHeld2 (fun hHeld3 => ?_)
                clear hK K hHeld2
                refine rcl 17 (h := fun K hK => ?_)
                go_simp
                refine hK.out _ _ hHeld3 (fun hHeld4 => ?_)
                clear hK K hHeld3
                refine wpAnyH_done (by kernel_rfl) ?_ _
                refine NoPanic.normal ?_
                go_wp2_with fail
                go_meet
                case rel => exact ⟨_, _, rfl, rfl, (unhide HE8).errX, HBe⟩
              case rest =>
                obtain ⟨va, E8, rfl, hEe, HE8, HBn⟩ := hcut
                obtain rfl := hEe.symm
                have HB8 : Hid (Below w.heap.size w wc) := bnx (unhide HB7) (unhide HBn)
                have HE78 := hide ((unhide HE7).below (unhide HBn))
                have HES8 := hide ((unhide HES7).below (unhide HBn))
                clear HE7 HES7 HC7
                obtain ⟨q0, q1, q2, q3, q4, q5, q6⟩ := (unhide HC) _ (unhide HB8)
                go_wp2_with fail
                refine (eqe_same _ _ l1 _ (unhide HES8).ens ((unhide H1).below (unhide HB8)).ens (by rw [unhide HL1]; omega)).mono ?_
                rintro e w9 ⟨rfl, hb⟩
                have HB9 : Hid (Below w.heap.size w w9) := bnx (unhide HB8) hb
                have HE79 := hide ((unhide HE78).below hb)
                have HE89 := hide ((unhide HE8).below hb)
                clear hb HE78 HE8 q0 q1 q2 q3 q4 q5 q6
                go_wp2_with fail
                refine (num_err E7 8 _ ((unhide HG).below (unhide HB9) (unhide HG).pos) (unhide HE79).errX).mono ?_
                rintro e wa ⟨rfl, hb⟩
                have HBa : Hid (Below w.heap.size w wa) := bnx (unhide HB9) hb
                have HE8a := hide ((unhide HE89).below hb)
                clear hb HE79 HE89
                go_wp2_with fail
                refine (num_err E8 8 _ ((unhide HG).below (unhide HBa) (unhide HG).pos) (unhide HE8a)).mono ?_
                rintro e wb ⟨rfl, hb⟩
                have HBb : Hid (Below w.heap.size w wb) := bnx (unhide HBa) hb
                clear hb HE8a
                go_wp2
                go_roundw
                case rel => exact ⟨k + 1, by omega, by go_num, HBb⟩
                case measure => simp [intOf]; omega
            · have HCI := hide (unhide HP6).es.cin
              have hlz : 0 < mm := by omega
              have HTM : Hid (ecs (l1.take (q + mm)) = ecs (l1.take q) ++ ecs ((l1.drop q).take mm)) := by
                show _ = _
                rw [← ecs_app, take_more]
              have H1e := hide (ecs_one ((l1.drop q).take mm))
              have hws := (unhide HB6').size
              clear hm0 HR HLM
              go_wp2_with (first
                | (at_builtin; refine wpList_app_c _ rfl _ _ 24 rfl w1.heap.size 55 i0 _ 4 40 Tryd.underlying24 hi hz0 hz1 hz2 rfl (by decide) _ _ q mm _ (ecs ((l1.drop q).take mm)) rfl rfl (unhide HO6) (unhide HCI) (unhide H1e) (by unfold maxLen; omega) (by omega) hws ?_)
                | go_in)
              intro v' w7 hown hgrow _
              have HO7 : Hid (w7.ownsRow w1.heap.size 55 4 v' (q + mm) (ecs (l1.take (q + mm)))) := by
                show World.ownsRow _ _ _ _ _ _ _
                rw [unhide HTM]; exact hown
              have HB7' : Hid (Below w1.heap.size w1 w7) := (unhide HB6').grown hgrow hws (fun k hk => ((unhide HO6).lt k hk).1)
              have hwa : IntKind.i64.wrap (b + 1 + (q : Int) + (mm : Int)) = b + 1 + (q : Int) + (mm : Int) := by rw [IntKind.wrap_i64]; omega
              clear hown hgrow
              go_wp2
              go_roundw
              case rel => exact ⟨q + mm, j + 1, by omega, by omega, by go_num, by go_num, HO7, HB7'⟩
              case measure => simp [intOf]; omega
    · have hend : ¬ (k : Int) < (len : Int) ∨ ¬ (k : Int) < 8 := by omega
      by_cases h9 : (k : Int) < (len : Int)
      · have h9b : ¬ (k : Int) < 8 := by omega
        go_wp2_with fail
        refine (wakes_any _ ((unhide HG).below (unhide HB) (unhide HG).pos)).mono ?_
        rintro e w9 ⟨rfl, hb9⟩
        have HB9 : Hid (Below w.heap.size w w9) := bnx (unhide HB) hb9
        clear hb9
        go_wp2
        go_ret
        exact ⟨rfl, unhide HB9⟩
      · go_wp2_with fail
        refine (wakes_any _ ((unhide HG).below (unhide HB) (unhide HG).pos)).mono ?_
        rintro e w9 ⟨rfl, hb9⟩
        have HB9 : Hid (Below w.heap.size w w9) := bnx (unhide HB) hb9
        clear hb9
        go_wp2
        go_ret
        exact ⟨rfl, unhide HB9⟩
theorem slis15_walk0 (ao : Option Addr) (cap : Nat) (w : World) (hg : Laid w) :
    Calls Tryd.prog 4 #[.slice ao 0 cap] w fun e w' => e = .returned (.bool true) ∧ Below w.heap.size w w' := by
  have HG := hide hg
  have HB : Hid (Below w.heap.size w w) := Below.refl _ _
  clear hg
  go_enter Tryd.func4, Tryd.ntmps4
  go_wp2
  refine wp_loop_rounds 1 ?_
  rw [rounds_succ]
  go_wp2_with fail
  refine (wakes_any _ ((unhide HG).below (unhide HB) (unhide HG).pos)).mono ?_
  rintro e w9 ⟨rfl, hb9⟩
  have HB9 : Hid (Below w.heap.size w w9) := bnx (unhide HB) hb9
  clear hb9
  go_wp2
  go_ret
  exact ⟨rfl, unhide HB9⟩
end Go.Proofs.YtnmcjjlpifemnabDoor.Et
