/- Proved here: the walk of dovecotelaw17.RpcBack: whatever messages it is handed, it returns true. Helper contract. -/
import Derived.Test.YtmmhdhpocjnlbaaGreatDoorZJHv
import Derived.Test.YtmmhdhpocjnlbaaGreatDoorZJCp
import Derived.Deep.CutRange
import Derived.Laws.AppendOwnNone
namespace Go.Proofs.YtmmhdhpocjnlbaaGreatDoor.Jr
open Go.RowKit Nt Et Qu
set_option maxRecDepth 100000

theorem rpc_build0g (ρ : Operand → Value) (dst : Option Tmp) (ty : TypeId) (pos : String) (after : Array Edge) (g : Option (Nat × Bool)) (w : World) :
    (execOp ρ ⟨dst, .build 27 #[], ty, pos, after, g⟩).run Tryz.prog w = .ok (.value (.agg (mcs mq0).toArray)) w := by
  kernel_rfl
theorem wpList_von {P : Program} {ops : Array Oper} {rest : List Oper} {o : Oper} {a : Act} {w w' : World} {v : Value} {Q : Exit → Act → World → Prop} (hw : Region.wanted o (yielded ops a.tmps) = true) (hr : (execOp a.eval o).run P w = .ok (.value v) w') (h : wpList P ops Q rest (a.put o.dst v) w') : wpList P ops Q (o :: rest) a w :=
  wpList_on hw fun K hK => by unfold Oper.wp; rw [hr]; exact hK _ _ h
theorem may_q (q : Mq) (w : World) (h : Rok w q) : Calls Tryz.prog 5 #[.agg (mcs q).toArray] w fun e w' => e = .returned (.bool (mayB q.r)) ∧ Hid (Below w.heap.size w w') := by
  obtain ⟨⟨k, f, t, te, ix, lt, co, ok, es, ms, dt⟩, ea, en, ec, ma, mn, mcp⟩ := q
  exact may_any k f t te ix lt co ok ea ma en ec mn mcp es ms dt w h
/-- a message whose rows are its own, and they lie in the world -/
def MqB (w : World) (B : Nat) (q : Mq) : Prop := MqOwn w B q ∧ B ≤ w.heap.size
theorem MqB.below {w w' : World} {B : Nat} {q : Mq} (h : MqB w B q) (hb : Below w.heap.size w w') : MqB w' B q := ⟨h.1.below hb, Nat.le_trans h.2 hb.size⟩
theorem MqB.rok {w : World} {B : Nat} {q : Mq} (h : MqB w B q) : Rok w q := h.1.rok
/-- messages in memory -/
def MqIn (w : World) (g off : Nat) (f : Nat → Mq) (len : Nat) : Prop := ∀ k, k < len → w.rangeAt g (off + k * 11) (mcs (f k)) ∧ Rok w (f k)
theorem wb_len {m : Rp} (h : Fit m) : (wb m).length ≤ 34359738368 := by
  obtain ⟨_, g1, g2, g3, g4, g5⟩ := h
  have h1 := g1.2
  have h3 := g3.2
  have h5 := g5.2
  simp only [Int.reducePow] at h1 h3 h5
  have l1 := take_sub m.ents we 65543 (efit_we g2) m.ents.length 255 (by omega) (by omega)
  rw [List.take_length] at l1
  have l2 := take_sub m.mems (wn 1) 1 (fun a _ => by rw [wn_len]; exact Nat.le_refl _) m.mems.length 255 (by omega) (by omega)
  rw [List.take_length] at l2
  unfold wb wt
  simp only [List.length_append, List.length_cons, wn_len, sb_length]
  omega
theorem zero_cell (w : World) : ∀ j u, [Value.int .u8 0][j]? = some u → (w.alloc (.cells #[.int .u8 0] 5)).cell? ((⟨w.heap.size, 0, none⟩ : Addr).add j) = some u := one_cell w _ _
set_option maxHeartbeats 32000000 in
theorem back17_walk (g off len cap : Nat) (f : Nat → Mq) (w : World) (hg : Laid w) (h : MqIn w g off f len) :
    Calls Tryz.prog 3 #[.slice (some ⟨g, off, none⟩) len cap] w fun e w' => e = .returned (.bool true) ∧ Below w.heap.size w w' := by
  have HG := hide hg
  have HAI : Hid (∀ W, Below w.heap.size w W → MqIn W g off f len) := fun W hW k hk => ⟨range_below (h k hk).1 hW, (h k hk).2.below hW⟩
  have HW0 : Hid (Below w.heap.size w w) := Below.refl _ _
  obtain ⟨i0, hi, hz0, hz1, hz2⟩ := info_parts info8
  clear h hg
  go_enter Tryz.func3, Tryz.ntmps3
  go_wp2
  go_loopw [3] (fun i wr => ∃ k : Nat, k ≤ len ∧ i = .int .i64 k ∧ Hid (Below w.heap.size w wr)) (fun i _ => len - (intOf i).toNat)
  case atStart => exact ⟨0, Nat.zero_le _, rfl, HW0⟩
  case round =>
    obtain ⟨k, hk, rfl, HWr⟩ := hrel
    by_cases h8 : k < len ∧ k < 8
    · obtain ⟨hlt, h8⟩ := h8
      obtain ⟨q, hq⟩ : ∃ q, q = f k := ⟨_, rfl⟩
      have HMI : Hid (∀ W, Below w.heap.size w W → W.rangeAt g (off + k * 11) (mcs q) ∧ Rok W q) := fun W hW => by rw [hq]; exact unhide HAI W hW k hlt
      clear hq
      go_upto_region 4 with fail
      (iterate 10 go_step)
      refine wpList_load_mid rfl 27 _ rfl g (off + k * 11) rfl (mcs q) _ (unhide HMI _ (unhide HWr)).1 Tryz.underlying27 rfl rpc_size ?_
      simp only [Act.put, List.setIfInBounds_toArray, List.set_cons_zero, List.set_cons_succ]
      go_wp2_with fail
      refine (heavyR_any q wr (unhide HMI _ (unhide HWr)).2).mono ?_
      rintro e w1 ⟨⟨b, rfl⟩, HB1⟩
      have HW1 : Hid (Below w.heap.size w w1) := bnx (unhide HWr) (unhide HB1)
      clear HB1 HWr
      cases b
      · obtain ⟨bm, hbm⟩ : ∃ bm, bm = mayB q.r := ⟨_, rfl⟩
        have HBM := hide hbm
        have HMY := hide (may_q q w1 (unhide HMI _ (unhide HW1)).2)
        rw [← hbm] at HMY
        clear hbm
        go_upto_region 7 with fail
        (iterate 10 go_step)
        refine wpList_load_mid rfl 27 _ rfl g (off + k * 11) rfl (mcs q) _ (unhide HMI _ (unhide HW1)).1 Tryz.underlying27 rfl rpc_size ?_
        simp only [Act.put, List.setIfInBounds_toArray, List.set_cons_zero, List.set_cons_succ]
        go_wp2_with fail
        refine (unhide HMY).mono ?_
        rintro e w2 ⟨rfl, HB2⟩
        have HW2 : Hid (Below w.heap.size w w2) := bnx (unhide HW1) (unhide HB2)
        clear HB2 HW1 HMY
        cases bm
        · go_upto_region 9 with fail
          (iterate 10 go_step)
          refine wpList_load_mid rfl 27 _ rfl g (off + k * 11) rfl (mcs q) _ (unhide HMI _ (unhide HW2)).1 Tryz.underlying27 rfl rpc_size ?_
          simp only [Act.put, List.setIfInBounds_toArray, List.set_cons_zero, List.set_cons_succ]
          go_wp2_with fail
          refine (copyr_any q w2 (unhide HMI _ (unhide HW2)).2 (unhide HMI _ (unhide HW2)).2.szs).mono ?_
          rintro e w3 ⟨p, rfl, HP, HB3⟩
          have HPR : Hid (p.r = q.r) := (unhide HP).1
          have HW3 : Hid (Below w.heap.size w w3) := bnx (unhide HW2) (unhide HB3)
          have HK3 := hide (unhide HP).2.rok
          obtain ⟨M, hM⟩ : ∃ M, M = w3.heap.size := ⟨_, rfl⟩
          have HM4 : Hid (Bx (w3.alloc (.cells (mcs p).toArray 27)) M (mcs p) 27) := Bx.new _ _ _ _ hM
          have HW4 : Hid (Below w.heap.size w (w3.alloc (.cells (mcs p).toArray 27))) := bnx (unhide HW3) (al_below _ _)
          have HK4 := hide ((unhide HK3).below (al_below w3 (.cells (mcs p).toArray 27)))
          go_simp
          go_step
          refine Nt.wpList_value rfl (rpc_alloc _ _ _ _ _ _) ?_
          simp only [Act.put, List.setIfInBounds_toArray, List.set_cons_zero, List.set_cons_succ]
          refine Nt.wpList_skip rfl (rpc_store _ _ _ _ _ _ _ p w3 rfl rfl) ?_
          simp only [Act.put]
          rw [← hM]
          clear hM HP HB3 HW3 HK3 HW2
          generalize w3.alloc (.cells (mcs p).toArray 27) = w4 at HM4 HW4 HK4 ⊢
          have HBP : Hid (false = mayB p.r) := by show _ = _; rw [unhide HPR]; exact unhide HBM
          have HEN := hide (enc_any p false w4 (unhide HK4) (unhide HBP))
          go_upto_region 10 with fail
          go_step
          refine wpList_load_mid rfl 27 _ rfl M 0 rfl (mcs p) _ (unhide HM4).range Tryz.underlying27 rfl rpc_size ?_
          simp only [Act.put, List.setIfInBounds_toArray, List.set_cons_zero, List.set_cons_succ]
          go_wp2_with fail
          refine (unhide HEN).mono ?_
          rintro e w5 ⟨v, E, rfl, HR, HE, HB5⟩
          have HM5 := hide ((unhide HM4).below (unhide HB5))
          have HK5 := hide ((unhide HK4).below (unhide HB5))
          have HW5 : Hid (Below w.heap.size w w5) := bnx (unhide HW4) (unhide HB5)
          have HX5 : Hid (ErrX w5 E 1) := (unhide HE).1
          obtain ⟨av, cv, rfl⟩ : ∃ a c, v = .slice a 0 c := by
            have h1 := unhide HR
            rw [if_neg (by decide)] at h1
            obtain ⟨a, c, h2⟩ := owns_slice h1
            exact ⟨a, c, h2⟩
          clear HE HB5 HEN HM4 HK4 HW4 HR
          have HCK := hide (Check_any p w5 (unhide HK5))
          go_upto_region 11 with fail
          refine wp_region_noPanic ?_
          refine wp_region_held_drew (S := fun W => W.rangeAt M 0 (mcs p) ∧ W.rangeAt g (off + k * 11) (mcs q)) (by kernel_rfl) ⟨(unhide HM5).range, (unhide HMI _ (unhide HW5)).1⟩ (fun hH => ?_)
          refine rtk 0 (v := .agg (mcs p).toArray) (hy := yieldsIf_load_mid (by rfl) 27 _ rfl M 0 rfl (mcs p) _ (fun _ h => h.1) Tryz.underlying27 rfl rpc_size) (h := ?_)
          refine rtk 3 (h := ?_)
          have HMd : Hid (Bx w5.drew M (mcs p) 27) := unhide HM5
          have HKd : Hid (Rok w5.drew p) := unhide HK5
          have HXd : Hid (ErrX w5.drew E 1) := (unhide HX5).below (below_drewN (Below.refl _ _) 1)
          have HZd : Hid (Below w5.heap.size w5 w5.drew) := below_drewN (Below.refl _ _) 1
          clear HCK
          generalize w5.drew = wd at HMd HKd HXd HZd hH ⊢
          have HCK := hide (Check_any p wd (unhide HKd))
          rw [← unhide HBP] at HCK
          refine rcl 1 (h := fun K hK => ?_)
          go_simp
          refine (unhide HCK).mono ?_
          rintro e w6 ⟨E6, rfl, HE6, HB6⟩
          have HM6 := hide ((unhide HMd).below (unhide HB6))
          have HK6 := hide ((unhide HKd).below (unhide HB6))
          have HX6 := hide ((unhide HXd).below (unhide HB6))
          have HZ6 : Hid (Below w5.heap.size w5 w6) := bnx (unhide HZd) (unhide HB6)
          have HY6 : Hid (ErrX w6 E6 1) := (unhide HE6).1
          refine hK.out _ _ ⟨(unhide HM6).range, (unhide HMI _ (bnx (unhide HW5) (unhide HZ6))).1⟩ (fun hH6 => ?_)
          clear hK K hH HB6 HE6 HCK HMd HKd HXd HZd
          refine rcl 2 (h := fun K hK => ?_)
          go_simp
          refine (num17 E6 1 w6 ((unhide HG).below (bnx (unhide HW5) (unhide HZ6)) (unhide HG).pos) (unhide HY6)).mono ?_
          rintro e w7 ⟨rfl, HB7⟩
          have HM7 := hide ((unhide HM6).below (unhide HB7))
          have HK7 := hide ((unhide HK6).below (unhide HB7))
          have HX7 := hide ((unhide HX6).below (unhide HB7))
          have HZ7 : Hid (Below w5.heap.size w5 w7) := bnx (unhide HZ6) (unhide HB7)
          refine hK.out _ _ ⟨(unhide HM7).range, (unhide HMI _ (bnx (unhide HW5) (unhide HZ7))).1⟩ (fun hH7 => ?_)
          clear hK K hH6 HB7 HY6 HM6 HK6 HX6 HZ6
          refine rtk 4 (h := ?_)
          refine rtk 5 (h := ?_)
          refine rtk 6 (h := ?_)
          refine rtk 8 (h := ?_)
          refine rcl 7 (h := fun K hK => ?_)
          go_simp
          refine (num17 E 1 w7 ((unhide HG).below (bnx (unhide HW5) (unhide HZ7)) (unhide HG).pos) (unhide HX7)).mono ?_
          rintro e w8 ⟨rfl, HB8⟩
          have HM8 := hide ((unhide HM7).below (unhide HB8))
          have HK8 := hide ((unhide HK7).below (unhide HB8))
          have HZ8 : Hid (Below w5.heap.size w5 w8) := bnx (unhide HZ7) (unhide HB8)
          refine hK.out _ _ ⟨(unhide HM8).range, (unhide HMI _ (bnx (unhide HW5) (unhide HZ8))).1⟩ (fun hH8 => ?_)
          clear hK K hH7 HB8 HM7 HK7 HX7 HZ7
          refine rtk 9 (h := ?_)
          refine rtk 10 (h := ?_)
          refine rtk 11 (h := ?_)
          refine rtk 12 (h := ?_)
          refine rtk 13 (h := ?_)
          refine rtk 14 (h := ?_)
          refine rtk 15 (h := ?_)
          refine rtk 16 (h := ?_)
          refine rtk 17 (h := ?_)
          refine rtk 18 (h := ?_)
          refine rtk 19 (h := ?_)
          refine rtk 20 (h := ?_)
          refine rtk 21 (v := .agg (mcs p).toArray) (hy := yieldsIf_load_mid (by rfl) 27 _ rfl M 0 rfl (mcs p) _ (fun _ h => h.1) Tryz.underlying27 rfl rpc_size) (h := ?_)
          refine rtk 22 (h := ?_)
          refine rtk 23 (h := ?_)
          refine rtk 24 (h := ?_)
          refine rtk 25 (v := .agg (mcs q).toArray) (hy := yieldsIf_load_mid (by rfl) 27 _ rfl g (off + k * 11) rfl (mcs q) _ (fun _ h => h.2) Tryz.underlying27 rfl rpc_size) (h := ?_)
          have HEQ := hide (eqr_any p q w8 (unhide HK8) (unhide HMI _ (bnx (unhide HW5) (unhide HZ8))).2 (by rw [unhide HPR]; exact ⟨rfl, rfl, rfl, rfl⟩))
          refine rcl 26 (h := fun K hK => ?_)
          go_simp
          refine (unhide HEQ).mono ?_
          rintro e w9 ⟨⟨b, rfl, hb⟩, HB9⟩
          have hbt : b = true := (unhide hb).2 (unhide HPR)
          subst hbt
          have HM9 := hide ((unhide HM8).below (unhide HB9))
          have HZ9 : Hid (Below w5.heap.size w5 w9) := bnx (unhide HZ8) (unhide HB9)
          refine hK.out _ _ ⟨(unhide HM9).range, (unhide HMI _ (bnx (unhide HW5) (unhide HZ9))).1⟩ (fun hH9 => ?_)
          clear hK K hH8 hb HB9 HEQ HM8 HK8 HZ8
          refine rtk 27 (h := ?_)
          refine rtk 28 (h := ?_)
          refine wpAnyH_done (by kernel_rfl) ?_ _
          refine NoPanic.normal ?_
          clear hH9 HM9 HM5 HK5 HX5
          have HWe : Hid (Below w.heap.size w w9) := bnx (unhide HW5) (unhide HZ9)
          go_wp2
          go_roundw
          case rel => exact ⟨k + 1, by omega, by go_num, HWe⟩
          case measure => simp [intOf]; omega
        · go_upto_region 9 with fail
          (iterate 10 go_step)
          refine wpList_load_mid rfl 27 _ rfl g (off + k * 11) rfl (mcs q) _ (unhide HMI _ (unhide HW2)).1 Tryz.underlying27 rfl rpc_size ?_
          simp only [Act.put, List.setIfInBounds_toArray, List.set_cons_zero, List.set_cons_succ]
          go_wp2_with fail
          refine (copyr_any q w2 (unhide HMI _ (unhide HW2)).2 (unhide HMI _ (unhide HW2)).2.szs).mono ?_
          rintro e w3 ⟨p, rfl, HP, HB3⟩
          have HPR : Hid (p.r = q.r) := (unhide HP).1
          have HW3 : Hid (Below w.heap.size w w3) := bnx (unhide HW2) (unhide HB3)
          have HK3 := hide (unhide HP).2.rok
          obtain ⟨M, hM⟩ : ∃ M, M = w3.heap.size := ⟨_, rfl⟩
          have HM4 : Hid (Bx (w3.alloc (.cells (mcs p).toArray 27)) M (mcs p) 27) := Bx.new _ _ _ _ hM
          have HW4 : Hid (Below w.heap.size w (w3.alloc (.cells (mcs p).toArray 27))) := bnx (unhide HW3) (al_below _ _)
          have HK4 := hide ((unhide HK3).below (al_below w3 (.cells (mcs p).toArray 27)))
          go_simp
          go_step
          refine Nt.wpList_value rfl (rpc_alloc _ _ _ _ _ _) ?_
          simp only [Act.put, List.setIfInBounds_toArray, List.set_cons_zero, List.set_cons_succ]
          refine Nt.wpList_skip rfl (rpc_store _ _ _ _ _ _ _ p w3 rfl rfl) ?_
          simp only [Act.put]
          rw [← hM]
          clear hM HP HB3 HW3 HK3 HW2
          generalize w3.alloc (.cells (mcs p).toArray 27) = w4 at HM4 HW4 HK4 ⊢
          have HBP : Hid (true = mayB p.r) := by show _ = _; rw [unhide HPR]; exact unhide HBM
          have HEN := hide (enc_any p true w4 (unhide HK4) (unhide HBP))
          go_upto_region 10 with fail
          go_step
          refine wpList_load_mid rfl 27 _ rfl M 0 rfl (mcs p) _ (unhide HM4).range Tryz.underlying27 rfl rpc_size ?_
          simp only [Act.put, List.setIfInBounds_toArray, List.set_cons_zero, List.set_cons_succ]
          go_wp2_with fail
          refine (unhide HEN).mono ?_
          rintro e w5 ⟨v, E, rfl, HR, HE, HB5⟩
          have HM5 := hide ((unhide HM4).below (unhide HB5))
          have HK5 := hide ((unhide HK4).below (unhide HB5))
          have HW5 : Hid (Below w.heap.size w w5) := bnx (unhide HW4) (unhide HB5)
          have HX5 : Hid (ErrX w5 E 0) := (unhide HE).1
          obtain ⟨L, hL⟩ : ∃ L, L = wb q.r := ⟨_, rfl⟩
          have HL := hide hL
          have HV5 : Hid (Byt w5 v L) := by
            have h1 := unhide HR
            rw [if_pos rfl, unhide HPR, ← hL] at h1
            exact RowB.byt h1 (by rw [hL]; exact wb_r8 _)
          have HDC := hide (dc_wb (unhide HBM).symm)
          have HD1 := hide (dc_more (unhide HBM).symm)
          have HD2 : Hid (∀ j, j < L.length → DcIs (L.take j) false rp0) := fun j hj => by rw [hL] at hj ⊢; exact dc_less (unhide HBM).symm hj
          have hLl : L.length ≤ 34359738368 := by rw [hL]; exact wb_len (may_fit (unhide HBM).symm)
          rw [← hL] at HDC HD1
          have HR8 : Hid (R8 L) := by show R8 _; rw [hL]; exact wb_r8 _
          obtain ⟨av, cv, hv, hcv1, hcv2⟩ := (unhide HV5).form
          obtain ⟨n, hn⟩ : ∃ n, n = L.length := ⟨_, rfl⟩
          rw [← hn] at hv hcv1 hLl HD2
          have HN := hide hn
          clear hn hL
          subst hv
          clear HE HB5 HEN HM4 HK4 HW4 HR
          have HCK := hide (Check_any p w5 (unhide HK5))
          go_upto_region 11 with fail
          refine wp_region_noPanic ?_
          refine wp_region_held_drew (S := fun W => W.rangeAt M 0 (mcs p) ∧ W.rangeAt g (off + k * 11) (mcs q)) (by kernel_rfl) ⟨(unhide HM5).range, (unhide HMI _ (unhide HW5)).1⟩ (fun hH => ?_)
          refine rtk 0 (v := .agg (mcs p).toArray) (hy := yieldsIf_load_mid (by rfl) 27 _ rfl M 0 rfl (mcs p) _ (fun _ h => h.1) Tryz.underlying27 rfl rpc_size) (h := ?_)
          refine rtk 3 (h := ?_)
          have HMd : Hid (Bx w5.drew M (mcs p) 27) := unhide HM5
          have HKd : Hid (Rok w5.drew p) := unhide HK5
          have HXd : Hid (ErrX w5.drew E 0) := (unhide HX5).below (below_drewN (Below.refl _ _) 1)
          have HZd : Hid (Below w5.heap.size w5 w5.drew) := below_drewN (Below.refl _ _) 1
          clear HCK
          generalize w5.drew = wd at HMd HKd HXd HZd hH ⊢
          have HCK := hide (Check_any p wd (unhide HKd))
          rw [← unhide HBP] at HCK
          refine rcl 1 (h := fun K hK => ?_)
          go_simp
          refine (unhide HCK).mono ?_
          rintro e w6 ⟨E6, rfl, HE6, HB6⟩
          have HM6 := hide ((unhide HMd).below (unhide HB6))
          have HK6 := hide ((unhide HKd).below (unhide HB6))
          have HX6 := hide ((unhide HXd).below (unhide HB6))
          have HZ6 : Hid (Below w5.heap.size w5 w6) := bnx (unhide HZd) (unhide HB6)
          have HY6 : Hid (ErrX w6 E6 0) := (unhide HE6).1
          refine hK.out _ _ ⟨(unhide HM6).range, (unhide HMI _ (bnx (unhide HW5) (unhide HZ6))).1⟩ (fun hH6 => ?_)
          clear hK K hH HB6 HE6 HCK HMd HKd HXd HZd
          refine rcl 2 (h := fun K hK => ?_)
          go_simp
          refine (num17 E6 0 w6 ((unhide HG).below (bnx (unhide HW5) (unhide HZ6)) (unhide HG).pos) (unhide HY6)).mono ?_
          rintro e w7 ⟨rfl, HB7⟩
          have HM7 := hide ((unhide HM6).below (unhide HB7))
          have HK7 := hide ((unhide HK6).below (unhide HB7))
          have HX7 := hide ((unhide HX6).below (unhide HB7))
          have HZ7 : Hid (Below w5.heap.size w5 w7) := bnx (unhide HZ6) (unhide HB7)
          refine hK.out _ _ ⟨(unhide HM7).range, (unhide HMI _ (bnx (unhide HW5) (unhide HZ7))).1⟩ (fun hH7 => ?_)
          clear hK K hH6 HB7 HY6 HM6 HK6 HX6 HZ6
          refine rtk 4 (h := ?_)
          refine rtk 5 (h := ?_)
          refine rtk 6 (h := ?_)
          refine rtk 8 (h := ?_)
          refine rcl 7 (h := fun K hK => ?_)
          go_simp
          refine (num17 E 0 w7 ((unhide HG).below (bnx (unhide HW5) (unhide HZ7)) (unhide HG).pos) (unhide HX7)).mono ?_
          rintro e w8 ⟨rfl, HB8⟩
          have HM8 := hide ((unhide HM7).below (unhide HB8))
          have HK8 := hide ((unhide HK7).below (unhide HB8))
          have HZ8 : Hid (Below w5.heap.size w5 w8) := bnx (unhide HZ7) (unhide HB8)
          refine hK.out _ _ ⟨(unhide HM8).range, (unhide HMI _ (bnx (unhide HW5) (unhide HZ8))).1⟩ (fun hH8 => ?_)
          clear hK K hH7 HB8 HM7 HK7 HX7 HZ7
          refine rtk 9 (h := ?_)
          refine rtk 10 (h := ?_)
          refine rtk 11 (h := ?_)
          refine rtk 12 (h := ?_)
          refine rtk 13 (h := ?_)
          refine rtk 14 (h := ?_)
          refine rsk 15 (h := ?_)
          refine rsk 16 (h := ?_)
          refine rsk 17 (h := ?_)
          refine rtk 18 (h := ?_)
          refine rtk 19 (h := ?_)
          refine rtk 20 (h := ?_)
          refine rtk 21 (v := .agg (mcs p).toArray) (hy := yieldsIf_load_mid (by rfl) 27 _ rfl M 0 rfl (mcs p) _ (fun _ h => h.1) Tryz.underlying27 rfl rpc_size) (h := ?_)
          refine rtk 22 (h := ?_)
          refine rtk 23 (h := ?_)
          refine rtk 24 (h := ?_)
          refine rtk 25 (v := .agg (mcs q).toArray) (hy := yieldsIf_load_mid (by rfl) 27 _ rfl g (off + k * 11) rfl (mcs q) _ (fun _ h => h.2) Tryz.underlying27 rfl rpc_size) (h := ?_)
          have HEQ := hide (eqr_any p q w8 (unhide HK8) (unhide HMI _ (bnx (unhide HW5) (unhide HZ8))).2 (by rw [unhide HPR]; exact ⟨rfl, rfl, rfl, rfl⟩))
          refine rcl 26 (h := fun K hK => ?_)
          go_simp
          refine (unhide HEQ).mono ?_
          rintro e w9 ⟨⟨b, rfl, hb⟩, HB9⟩
          have hbt : b = true := (unhide hb).2 (unhide HPR)
          subst hbt
          have HM9 := hide ((unhide HM8).below (unhide HB9))
          have HZ9 : Hid (Below w5.heap.size w5 w9) := bnx (unhide HZ8) (unhide HB9)
          refine hK.out _ _ ⟨(unhide HM9).range, (unhide HMI _ (bnx (unhide HW5) (unhide HZ9))).1⟩ (fun hH9 => ?_)
          clear hK K hH8 hb HB9 HEQ HM8 HK8 HZ8
          refine rtk 27 (h := ?_)
          refine rtk 28 (h := ?_)
          refine wpAnyH_done (by kernel_rfl) ?_ _
          refine NoPanic.normal ?_
          clear hH9 HM9 HM5 HK5 HX5
          have HDE := hide (dec_any _ L true q.r w9 ((unhide HV5).below (unhide HZ9)) (unhide HDC))
          go_wp2_with fail
          refine (unhide HDE).mono ?_
          rintro e w11 ⟨x, F, rfl, HQ, HF, HB11⟩
          have HXR : Hid (x.r = q.r) := (unhide HQ).1
          have hbx : w5.heap.size ≤ w9.heap.size := (unhide HZ9).size
          obtain ⟨bx, hbb⟩ : ∃ bx, bx = w9.heap.size := ⟨_, rfl⟩
          have HO11 : Hid (MqB w11 bx x) := ⟨by rw [hbb]; exact (unhide HQ).2, by rw [hbb]; exact (unhide HB11).size⟩
          have hbx2 : w5.heap.size ≤ bx := by omega
          have HZ11 : Hid (Below w5.heap.size w5 w11) := bnx (unhide HZ9) (unhide HB11)
          have HF11 : Hid (ErrX w11 F 0) := (unhide HF).1
          obtain ⟨M8, hM8⟩ : ∃ M, M = w11.heap.size := ⟨_, rfl⟩
          have HM12 : Hid (Bx (w11.alloc (.cells (mcs x).toArray 27)) M8 (mcs x) 27) := Bx.new _ _ _ _ hM8
          have HZ12 : Hid (Below w5.heap.size w5 (w11.alloc (.cells (mcs x).toArray 27))) := bnx (unhide HZ11) (al_below _ _)
          have HO12 := hide ((unhide HO11).below (al_below w11 (.cells (mcs x).toArray 27)))
          have HF12 := hide ((unhide HF11).below (al_below w11 (.cells (mcs x).toArray 27)))
          go_simp
          (iterate 10 go_step)
          refine Nt.wpList_value rfl (rpc_alloc _ _ _ _ _ _) ?_
          simp only [Act.put, List.setIfInBounds_toArray, List.set_cons_zero, List.set_cons_succ]
          refine Nt.wpList_skip rfl (rpc_store _ _ _ _ _ _ _ x w11 rfl rfl) ?_
          simp only [Act.put]
          rw [← hM8]
          clear hM8 HQ HF HB11 HDE HO11 HZ11 HF11 HZ9 hbx hbb
          generalize w11.alloc (.cells (mcs x).toArray 27) = w12 at HM12 HZ12 HO12 HF12 ⊢
          have hw512 : w5.heap.size ≤ w12.heap.size := (unhide HZ12).size
          have HCB := hide (copyb_any _ L w12 ((unhide HV5).below (unhide HZ12)) (by rw [← unhide HN]; omega))
          go_wp2_with fail
          refine (unhide HCB).mono ?_
          rintro e w13 ⟨v13, rfl, HR13, HB13⟩
          have HZ13 : Hid (Below w5.heap.size w5 w13) := bnx (unhide HZ12) (unhide HB13)
          have HY13 : Hid (Below w12.heap.size w12 w13) := unhide HB13
          have hbx6 : w12.heap.size ≤ w13.heap.size := (unhide HB13).size
          have HRR : Hid (w13.ownsRow w12.heap.size 5 1 v13 n (L.map (Value.int .u8))) := by
            have h1 := unhide HR13
            unfold RowB at h1
            rw [← unhide HN] at h1
            exact h1
          have HLM : Hid (L.map (Value.int .u8) ++ [.int .u8 0] = (L ++ [0]).map (Value.int .u8)) := by show _ = _; rw [List.map_append]; rfl
          have HLN : Hid ((L ++ [0]).length = n + 1) := by show _ = _; rw [List.length_append, ← unhide HN]; rfl
          have HR80 : Hid (R8 (L ++ [0])) := fun y hy => by
            rcases List.mem_append.1 hy with hy | hy
            · exact unhide HR8 y hy
            · simp only [List.mem_cons, List.not_mem_nil, or_false] at hy
              subst hy
              exact ⟨by decide, by decide⟩
          generalize L ++ [(0 : Int)] = L0 at HLM HLN HR80 HD1
          generalize L.map (Value.int .u8) = LM at HRR HLM
          clear HR13 HCB HB13 HZ12
          obtain ⟨a13, c13, rfl⟩ := owns_slice (unhide HRR)
          have HZ14 : Hid (Below w5.heap.size w5 (w13.alloc (.cells #[.int .u8 0] 5))) := bnx (unhide HZ13) (al_below _ _)
          go_wp2_with (first
            | (at_builtin; refine wpList_append_own _ rfl _ _ 29 rfl w12.heap.size 5 i0 (.int .u8 0) 1 1 Tryz.underlying29 hi hz0 hz1 hz2 rfl (by decide) _ _ _ rfl ((unhide HRR).alloc _) ⟨w13.heap.size, 0, none⟩ 1 1 [.int .u8 0] rfl rfl (zero_cell w13) (one_one _ _) (by unfold maxLen; omega) (by omega) (by simp; omega) ?_)
            | go_in)
          intro v15 w15 hown hgrow _
          have HFg := hide (Fr.of_grown (F := fun g => (Value.slice a13 n c13).ownBlock = some g) hgrow (fun g h => h))
          have HBz := hide ((al_below w13 (.cells #[.int .u8 0] 5)))
          have HB15a : Hid (∀ i, (Value.slice a13 n c13).ownBlock = some i → w12.heap.size ≤ i) := fun i hi => (owns_blk (unhide HRR) i hi).1
          have HY14 : Hid (Below w12.heap.size w12 (w13.alloc (.cells #[.int .u8 0] 5))) := bnx (unhide HY13) (al_below _ _)
          have HY15 : Hid (Below w12.heap.size w12 w15) := Fr.bel (unhide HY14) (unhide HFg) (unhide HB15a) (unhide HY14).size
          have HZ15 : Hid (Below w5.heap.size w5 w15) := Fr.bel (unhide HZ14) (unhide HFg) (fun i hi => Nat.le_trans hw512 (unhide HB15a i hi)) (unhide HZ14).size
          have HM15 := hide ((unhide HM12).below (unhide HY15))
          have HO15 := hide ((unhide HO12).below (unhide HY15))
          have HF15 := hide ((unhide HF12).below (unhide HY15))
          have HV15 : Hid (Byt w15 v15 L0) := by
            have h1 : RowB w15 w12.heap.size v15 L0 := by unfold RowB; rw [← unhide HLM, unhide HLN]; exact hown
            exact h1.byt (unhide HR80)
          obtain ⟨a15, c15, rfl⟩ := owns_slice hown
          clear hown hgrow HRR HLM HM12 HO12 HF12 HZ13 HZ14 HY13 HY14 HY15 HFg HBz
          have HDF := hide (dec_any _ L0 false rp0 w15 (unhide HV15) (unhide HD1))
          go_wp2_with fail
          refine (unhide HDF).mono ?_
          rintro e w16 ⟨y, G, rfl, HQy, HGy, HB16⟩
          have HM16 := hide ((unhide HM15).below (unhide HB16))
          have HO16 := hide ((unhide HO15).below (unhide HB16))
          have HF16 := hide ((unhide HF15).below (unhide HB16))
          have HZ16 : Hid (Below w5.heap.size w5 w16) := bnx (unhide HZ15) (unhide HB16)
          have HG16 : Hid (ErrX w16 G 1) := (unhide HGy).1
          have HM17 := hide ((unhide HM16).below (al_below w16 (.cells (mcs y).toArray 27)))
          have HO17 := hide ((unhide HO16).below (al_below w16 (.cells (mcs y).toArray 27)))
          have HF17 := hide ((unhide HF16).below (al_below w16 (.cells (mcs y).toArray 27)))
          have HG17 := hide ((unhide HG16).below (al_below w16 (.cells (mcs y).toArray 27)))
          have HZ17 : Hid (Below w5.heap.size w5 (w16.alloc (.cells (mcs y).toArray 27))) := bnx (unhide HZ16) (al_below _ _)
          go_simp
          (iterate 10 go_step)
          refine Nt.wpList_value rfl (rpc_alloc _ _ _ _ _ _) ?_
          simp only [Act.put, List.setIfInBounds_toArray, List.set_cons_zero, List.set_cons_succ]
          refine Nt.wpList_skip rfl (rpc_store _ _ _ _ _ _ _ y w16 rfl rfl) ?_
          simp only [Act.put]
          clear HV15 HDF HQy HGy HB16 HM15 HO15 HF15 HZ15 HM16 HO16 HF16 HG16 HZ16
          generalize w16.alloc (.cells (mcs y).toArray 27) = w17 at HM17 HO17 HF17 HG17 HZ17 ⊢
          go_upto_region 16 with fail
          refine wp_region_noPanic ?_
          refine wp_region_held_drew (S := fun W => W.rangeAt M8 0 (mcs x) ∧ W.rangeAt g (off + k * 11) (mcs q)) (by kernel_rfl) ⟨(unhide HM17).range, (unhide HMI _ (bnx (unhide HW5) (unhide HZ17))).1⟩ (fun hH => ?_)
          refine rtk 0 (h := ?_)
          have HMe : Hid (Bx w17.drew M8 (mcs x) 27) := unhide HM17
          have HOe : Hid (MqB w17.drew bx x) := (unhide HO17).below (below_drewN (Below.refl _ _) 1)
          have HFe : Hid (ErrX w17.drew F 0) := (unhide HF17).below (below_drewN (Below.refl _ _) 1)
          have HGe : Hid (ErrX w17.drew G 1) := (unhide HG17).below (below_drewN (Below.refl _ _) 1)
          have HZe : Hid (Below w5.heap.size w5 w17.drew) := below_drewN (unhide HZ17) 1
          clear HM17 HO17 HF17 HG17 HZ17
          generalize w17.drew = we at HMe HOe HFe HGe HZe hH ⊢
          refine rcl 1 (h := fun K hK => ?_)
          go_simp
          refine (num17 F 0 we ((unhide HG).below (bnx (unhide HW5) (unhide HZe)) (unhide HG).pos) (unhide HFe)).mono ?_
          rintro e w18 ⟨rfl, HB18⟩
          have HM18 := hide ((unhide HMe).below (unhide HB18))
          have HO18 := hide ((unhide HOe).below (unhide HB18))
          have HG18 := hide ((unhide HGe).below (unhide HB18))
          have HZ18 : Hid (Below w5.heap.size w5 w18) := bnx (unhide HZe) (unhide HB18)
          refine hK.out _ _ ⟨(unhide HM18).range, (unhide HMI _ (bnx (unhide HW5) (unhide HZ18))).1⟩ (fun hH18 => ?_)
          clear hK K hH HB18 HMe HOe HFe HGe HZe
          refine rtk 2 (h := ?_)
          refine rtk 3 (h := ?_)
          refine rtk 4 (v := .agg (mcs x).toArray) (hy := yieldsIf_load_mid (by rfl) 27 _ rfl M8 0 rfl (mcs x) _ (fun _ h => h.1) Tryz.underlying27 rfl rpc_size) (h := ?_)
          refine rtk 5 (h := ?_)
          refine rtk 6 (h := ?_)
          refine rtk 7 (h := ?_)
          refine rtk 8 (v := .agg (mcs q).toArray) (hy := yieldsIf_load_mid (by rfl) 27 _ rfl g (off + k * 11) rfl (mcs q) _ (fun _ h => h.2) Tryz.underlying27 rfl rpc_size) (h := ?_)
          have HEQ := hide (eqr_any x q w18 (unhide HO18).rok (unhide HMI _ (bnx (unhide HW5) (unhide HZ18))).2 (by rw [unhide HXR]; exact ⟨rfl, rfl, rfl, rfl⟩))
          refine rcl 9 (h := fun K hK => ?_)
          go_simp
          refine (unhide HEQ).mono ?_
          rintro e w19 ⟨⟨b, rfl, hb⟩, HB19⟩
          have hbt : b = true := (unhide hb).2 (unhide HXR)
          subst hbt
          have HM19 := hide ((unhide HM18).below (unhide HB19))
          have HO19 := hide ((unhide HO18).below (unhide HB19))
          have HG19 := hide ((unhide HG18).below (unhide HB19))
          have HZ19 : Hid (Below w5.heap.size w5 w19) := bnx (unhide HZ18) (unhide HB19)
          refine hK.out _ _ ⟨(unhide HM19).range, (unhide HMI _ (bnx (unhide HW5) (unhide HZ19))).1⟩ (fun hH19 => ?_)
          clear hK K hH18 hb HB19 HEQ HM18 HO18 HG18 HZ18
          refine rtk 10 (h := ?_)
          refine rtk 11 (h := ?_)
          refine rtk 12 (h := ?_)
          refine rtk 13 (h := ?_)
          refine rcl 14 (h := fun K hK => ?_)
          go_simp
          refine (num17 G 1 w19 ((unhide HG).below (bnx (unhide HW5) (unhide HZ19)) (unhide HG).pos) (unhide HG19)).mono ?_
          rintro e w20 ⟨rfl, HB20⟩
          have HM20 := hide ((unhide HM19).below (unhide HB20))
          have HO20 := hide ((unhide HO19).below (unhide HB20))
          have HZ20 : Hid (Below w5.heap.size w5 w20) := bnx (unhide HZ19) (unhide HB20)
          refine hK.out _ _ ⟨(unhide HM20).range, (unhide HMI _ (bnx (unhide HW5) (unhide HZ20))).1⟩ (fun hH20 => ?_)
          clear hK K hH19 HB20 HM19 HO19 HG19 HZ19
          refine rtk 15 (h := ?_)
          refine rtk 16 (h := ?_)
          refine wpAnyH_done (by kernel_rfl) ?_ _
          refine NoPanic.normal ?_
          clear hH20
          have c8 := (unhide HM20).cell 8 _ rfl
          have hbs : bx ≤ w20.heap.size := (unhide HO20).2
          have HSP := hide (entries_sp bx (.slice x.ea x.en x.ec) x.en w20 hbs (unhide HO20).1.2.2.1 ⟨_, (unhide HO20).1.1⟩)
          have HBK : Hid (∀ i, (Value.slice x.ea x.en x.ec).ownBlock = some i → w5.heap.size ≤ i) := fun i hi => by have h1 := (owns_blk (unhide HO20).1.1 i hi).1; omega
          go_wp2_with fail
          refine (unhide HSP).mono ?_
          rintro e w21 ⟨rfl, hsf⟩
          have HZ21 : Hid (Below w5.heap.size w5 w21) := Fr.bel (unhide HZ20) hsf.fr (unhide HBK) (unhide HZ20).size
          clear hsf HSP HBK c8 HM20 HO20 HZ20 hbs
          go_wp2
          go_loopw [12] (fun i wr => ∃ j : Nat, j ≤ 68719476736 ∧ i = .int .i64 j ∧ Hid (Below w5.heap.size w5 wr)) (fun i _ => n - (intOf i).toNat)
          case atStart => exact ⟨0, by omega, rfl, HZ21⟩
          case round =>
            obtain ⟨j, hjm, rfl, HZr⟩ := hrel
            by_cases hj : j < n
            · have hjc : j ≤ cv := by omega
              have HDG := hide (dec_any _ (L.take j) false rp0 wr (((unhide HV5).below (unhide HZr)).take j (by omega)) (unhide HD2 j hj))
              go_wp2_with fail
              refine (unhide HDG).mono ?_
              rintro e w22 ⟨y2, G2, rfl, HQy, HGy, HB22⟩
              have HZ22 : Hid (Below w5.heap.size w5 w22) := bnx (unhide HZr) (unhide HB22)
              have HK22 := hide (unhide HQy).2.rok
              have HYR : Hid (y2.r = rp0) := (unhide HQy).1
              have HG22 : Hid (ErrX w22 G2 1) := (unhide HGy).1
              obtain ⟨M13, hM13⟩ : ∃ M, M = w22.heap.size := ⟨_, rfl⟩
              have HM23 : Hid (Bx (w22.alloc (.cells (mcs y2).toArray 27)) M13 (mcs y2) 27) := Bx.new _ _ _ _ hM13
              have HK23 := hide ((unhide HK22).below (al_below w22 (.cells (mcs y2).toArray 27)))
              have HG23 := hide ((unhide HG22).below (al_below w22 (.cells (mcs y2).toArray 27)))
              have HZ23 : Hid (Below w5.heap.size w5 (w22.alloc (.cells (mcs y2).toArray 27))) := bnx (unhide HZ22) (al_below _ _)
              go_simp
              (iterate 10 go_step)
              refine Nt.wpList_value rfl (rpc_alloc _ _ _ _ _ _) ?_
              simp only [Act.put, List.setIfInBounds_toArray, List.set_cons_zero, List.set_cons_succ]
              refine Nt.wpList_skip rfl (rpc_store _ _ _ _ _ _ _ y2 w22 rfl rfl) ?_
              simp only [Act.put]
              rw [← hM13]
              clear hM13 HDG HQy HGy HB22 HZ22 HK22 HG22 HZr
              generalize w22.alloc (.cells (mcs y2).toArray 27) = w23 at HM23 HK23 HG23 HZ23 ⊢
              go_wp2_with fail
              refine (num17 G2 1 w23 ((unhide HG).below (bnx (unhide HW5) (unhide HZ23)) (unhide HG).pos) (unhide HG23)).mono ?_
              rintro e w24 ⟨rfl, HB24⟩
              have HM24 := hide ((unhide HM23).below (unhide HB24))
              have HK24 := hide ((unhide HK23).below (unhide HB24))
              have HZ24 : Hid (Below w5.heap.size w5 w24) := bnx (unhide HZ23) (unhide HB24)
              clear HB24 HM23 HK23 HG23 HZ23
              have HEQ := hide (eqr_any y2 mq0 w24 (unhide HK24) (rok0 w24) (by rw [unhide HYR]; exact ⟨rfl, rfl, rfl, rfl⟩))
              go_simp
              (iterate 7 go_step)
              refine wpList_on (by rfl) fun K hK => wp_load_mid 27 _ rfl M13 0 rfl (mcs y2) _ (unhide HM24).range Tryz.underlying27 rfl rpc_size (hK _ _ ?_)
              clear hK K
              simp only [Act.put, List.setIfInBounds_toArray, List.set_cons_zero, List.set_cons_succ]
              refine wpList_von (by rfl) (rpc_build0g _ _ _ _ _ _ _) ?_
              simp only [Act.put, List.setIfInBounds_toArray, List.set_cons_zero, List.set_cons_succ]
              go_wp2_with fail
              refine (unhide HEQ).mono ?_
              rintro e w25 ⟨⟨b, rfl, hb⟩, HB25⟩
              have hbt : b = true := (unhide hb).2 (unhide HYR)
              subst hbt
              have HZ25 : Hid (Below w5.heap.size w5 w25) := bnx (unhide HZ24) (unhide HB25)
              clear hb HB25 HEQ HM24 HK24 HZ24
              have hq0 : n / 20 ≤ 34359738368 := by omega
              go_wp2
              go_roundw
              case rel => exact ⟨j + 1 + n / 20, by omega, by go_num, HZ25⟩
              case measure => simp [intOf]; omega
            · have HEN2 := hide (enc_any q true wr (unhide HMI _ (bnx (unhide HW5) (unhide HZr))).2 (unhide HBM))
              go_upto_region 25 with fail
              (iterate 10 go_step)
              refine wpList_load_mid rfl 27 _ rfl g (off + k * 11) rfl (mcs q) _ (unhide HMI _ (bnx (unhide HW5) (unhide HZr))).1 Tryz.underlying27 rfl rpc_size ?_
              simp only [Act.put, List.setIfInBounds_toArray, List.set_cons_zero, List.set_cons_succ]
              go_wp2_with fail
              refine (unhide HEN2).mono ?_
              rintro e w26 ⟨v26, H26, rfl, HR26, HE26, HB26⟩
              have HZ26 : Hid (Below w5.heap.size w5 w26) := bnx (unhide HZr) (unhide HB26)
              have HX26 : Hid (ErrX w26 H26 0) := (unhide HE26).1
              have HV26 : Hid (Byt w26 v26 L) := by
                have h1 := unhide HR26
                rw [if_pos rfl, ← unhide HL] at h1
                exact RowB.byt h1 (unhide HR8)
              obtain ⟨a26, n26, c26, rfl⟩ : ∃ a m c, v26 = .slice a m c := by obtain ⟨a, c, h⟩ := owns_slice (unhide HR26); exact ⟨a, _, c, h⟩
              clear HR26 HE26 HB26 HEN2 HZr
              go_wp2_with fail
              refine (num17 H26 0 w26 ((unhide HG).below (bnx (unhide HW5) (unhide HZ26)) (unhide HG).pos) (unhide HX26)).mono ?_
              rintro e w27 ⟨rfl, HB27⟩
              have HZ27 : Hid (Below w5.heap.size w5 w27) := bnx (unhide HZ26) (unhide HB27)
              have HV27 := hide ((unhide HV26).below (unhide HB27))
              clear HB27 HZ26 HV26 HX26
              go_wp2_with fail
              refine (eq_any _ _ L L w27 ((unhide HV5).below (unhide HZ27)) (unhide HV27)).mono ?_
              rw [decide_eq_true (show L = L from rfl)]
              rintro e w28 ⟨rfl, q28, hw28⟩
              have HWe : Hid (Below w.heap.size w w28) := by show Below _ _ _; rw [hw28]; exact below_drewN (bnx (unhide HW5) (unhide HZ27)) q28
              clear hw28
              go_wp2
              go_roundw
              case rel => exact ⟨k + 1, by omega, by go_num, HWe⟩
              case measure => simp [intOf]; omega
      · go_wp2
        go_ret
        exact ⟨rfl, unhide HW1⟩
    · have hend : ¬ (k : Int) < (len : Int) ∨ ¬ (k : Int) < 8 := by omega
      by_cases h9 : (k : Int) < (len : Int)
      · have h9b : ¬ (k : Int) < 8 := by omega
        have HWK := hide (wakes_any wr ((unhide HG).below (unhide HWr) (unhide HG).pos))
        go_wp2_with fail
        refine (unhide HWK).mono ?_
        rintro e w9 ⟨rfl, HB9⟩
        have HW9 : Hid (Below w.heap.size w w9) := bnx (unhide HWr) (unhide HB9)
        go_wp2
        go_ret
        exact ⟨rfl, unhide HW9⟩
      · have HWK := hide (wakes_any wr ((unhide HG).below (unhide HWr) (unhide HG).pos))
        go_wp2_with fail
        refine (unhide HWK).mono ?_
        rintro e w9 ⟨rfl, HB9⟩
        have HW9 : Hid (Below w.heap.size w w9) := bnx (unhide HWr) (unhide HB9)
        go_wp2
        go_ret
        exact ⟨rfl, unhide HW9⟩
theorem back17_walk0 (ao : Option Addr) (cap : Nat) (w : World) (hg : Laid w) :
    Calls Tryz.prog 3 #[.slice ao 0 cap] w fun e w' => e = .returned (.bool true) ∧ Below w.heap.size w w' := by
  have HG := hide hg
  have HWr : Hid (Below w.heap.size w w) := Below.refl _ _
  clear hg
  go_enter Tryz.func3, Tryz.ntmps3
  go_wp2
  refine wp_loop_rounds 1 ?_
  rw [rounds_succ]
  have HWK := hide (wakes_any w ((unhide HG).below (unhide HWr) (unhide HG).pos))
  go_wp2_with fail
  refine (unhide HWK).mono ?_
  rintro e w9 ⟨rfl, HB9⟩
  have HW9 : Hid (Below w.heap.size w w9) := bnx (unhide HWr) (unhide HB9)
  go_wp2
  go_ret
  exact ⟨rfl, unhide HW9⟩
end Go.Proofs.YtmmhdhpocjnlbaaGreatDoor.Jr
