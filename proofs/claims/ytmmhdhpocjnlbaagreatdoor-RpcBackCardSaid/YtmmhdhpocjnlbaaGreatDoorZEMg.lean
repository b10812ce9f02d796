/- Proved here: entries.merged: a log with a leader's entries behind one that it has. Helper contracts. -/
import Derived.Test.YtmmhdhpocjnlbaaGreatDoorM3
import Derived.Test.YtmmhdhpocjnlbaaGreatDoorZKTk
namespace Go.Proofs.YtmmhdhpocjnlbaaGreatDoor.Et
open Go.RowKit Nt
set_option maxRecDepth 100000

/-- the log has that entry -/
def There (L : Lo) (e : En) : Prop := termAt L e.1 = some e.2.1
instance (L : Lo) (e : En) : Decidable (There L e) := by unfold There; infer_instance
/-- how many entries ahead the log has -/
def offs (L : Lo) : List En → Nat
  | [] => 0
  | e :: r => if There L e then offs L r + 1 else 0
theorem offs_eq (L : Lo) : ∀ (es : List En) (k : Nat), k ≤ es.length → (∀ j, j < k → There L (en0 es j)) → (k < es.length → ¬ There L (en0 es k)) → offs L es = k
  | [], k, hk, _, _ => by
    have : k = 0 := by simpa using hk
    rw [this]; rfl
  | e :: r, 0, _, _, h2 => by
    have h3 : ¬ There L e := h2 (by simp)
    show (if There L e then offs L r + 1 else 0) = 0
    rw [if_neg h3]
  | e :: r, k + 1, hk, h1, h2 => by
    have h0 : There L e := h1 0 (by omega)
    show (if There L e then offs L r + 1 else 0) = k + 1
    rw [if_pos h0, offs_eq L r k (by simpa using hk) (fun j hj => by
      have := h1 (j + 1) (by omega)
      unfold en0 at this ⊢
      rw [List.getD_cons_succ] at this
      exact this) (fun hl => by
      have := h2 (by simpa using hl)
      unfold en0 at this ⊢
      rw [List.getD_cons_succ] at this
      exact this)]
def mgdR (L : Lo) (es : List En) : Int × Lo := if offs L es = es.length then (0, L) else splR L ((en0 es (offs L es)).1 - 1 - L.b).toNat (es.drop (offs L es))
theorem mgdR_all {L : Lo} {es : List En} (h : ∀ j, j < es.length → There L (en0 es j)) : mgdR L es = (0, L) := if_pos (offs_eq L es es.length (Nat.le_refl _) h (fun h => absurd h (Nat.lt_irrefl _)))
theorem mgdR_off {L : Lo} {es : List En} {k : Nat} (hk : k < es.length) (h : ∀ j, j < k → There L (en0 es j)) (h2 : ¬ There L (en0 es k)) : mgdR L es = splR L ((en0 es k).1 - 1 - L.b).toNat (es.drop k) := by
  have e := offs_eq L es k (Nat.le_of_lt hk) h (fun _ => h2)
  unfold mgdR
  rw [e, if_neg (by omega)]
theorem ents_hi (a : Act) (dst : Option Tmp) (x y : Operand) (ty : TypeId) (pos : String) (after : Array Edge) (ao : Option Addr) (n cap k : Nat) (hx : a.eval x = .slice ao n cap) (hy : a.eval y = .int .i64 (k : Nat)) (hk : k ≤ n) (w : World) :
    (execOp a.eval ⟨dst, .slice 24 x (some y) none none, ty, pos, after, none⟩).run Tryz.prog w = .ok (.value (.slice (hiA ao 4 cap k) (n - k) (cap - k))) w := by
  unfold execOp
  simp only [Option.map, hx, hy]
  have e : Tryz.prog.elem 24 = 56 := by kernel_rfl
  have h1 := run_slice_l (P := Tryz.prog) (w := w) 24 ao n cap (by rw [e]; exact Tryz.underlying24) .i64 (k : Nat) (by omega) (by omega)
  have h2 := run_sliceAt_slice (P := Tryz.prog) (w := w) 24 (.slice ao n cap) (some (.int .i64 (k : Nat))) none none (by rw [e]; exact Tryz.underlying24)
  have h3 : (sizeOf (Tryz.prog.elem 24)).run Tryz.prog w = .ok 4 w := by rw [e]; exact Tryz.sizeOf56 w
  rw [h1, h3] at h2
  simp only [Sem.run_bind, h2, Result.andThen, Sem.run_pure, sliced, Int.toNat_natCast]
  rfl
set_option maxHeartbeats 8000000 in
theorem merged_any (b t p : Int) (ao : Option Addr) (n cap : Nat) (l : List En) (ao2 : Option Addr) (m cap2 : Nat) (es : List En) (w : World) (h : Es w ao n cap l) (h2 : Es w ao2 m cap2 es) (hm : May ⟨b, t, l⟩) (hp1 : b ≤ p) (hp2 : p ≤ b + (n : Int)) (hes : ∀ k, k < m → (en0 es k).1 = p + 1 + (k : Nat)) :
    Calls Tryz.prog 67 #[.agg #[.int .i64 b, .int .i64 t, .slice ao n cap], .slice ao2 m cap2] w fun e w' => TelR w.heap.size (mgdR ⟨b, t, l⟩ es) e w' ∧ Hid (Below w.heap.size w w') := by
  have HB0 : Hid (Below w.heap.size w ((w.alloc (.cells #[.int .i64 b, .int .i64 t, .slice ao n cap] 85)).alloc (.cells #[.int .i64 0, .int .i64 0, .slice none 0 0] 85))) := ((Below.refl _ _).alloc (Nat.le_refl _) _).alloc (by simp) _
  have HX0 : Hid (Bx ((w.alloc (.cells #[.int .i64 b, .int .i64 t, .slice ao n cap] 85)).alloc (.cells #[.int .i64 0, .int .i64 0, .slice none 0 0] 85)) w.heap.size [.int .i64 b, .int .i64 t, .slice ao n cap] 85) := (Bx.new w _ _ _ rfl).below ((Below.refl _ _).alloc (Nat.le_refl _) _)
  have HY0 : Hid (Bx ((w.alloc (.cells #[.int .i64 b, .int .i64 t, .slice ao n cap] 85)).alloc (.cells #[.int .i64 0, .int .i64 0, .slice none 0 0] 85)) (w.heap.size + 1) [.int .i64 0, .int .i64 0, .slice none 0 0] 85) := Bx.new _ _ _ _ (by simp)
  have hs0 : ((w.alloc (.cells #[.int .i64 b, .int .i64 t, .slice ao n cap] 85)).alloc (.cells #[.int .i64 0, .int .i64 0, .slice none 0 0] 85)).heap.size = w.heap.size + 2 := by simp
  have HE := hide h
  have HE2 := hide h2
  have HM := hide hm
  have HES := hide hes
  have hb1 : 0 ≤ b := hm.1.1
  have hb2 : b ≤ 1099511625728 := hm.1.2.1
  have hn5 : n ≤ 512 := by have := hm.2.1; rw [h.1] at this; exact this
  have hmx : m ≤ 3518437208780 := h2.2.2.2.1
  have hmc : m ≤ cap2 := h2.2.1
  have HI : Hid (lastI ⟨b, t, l⟩ = b + (n : Int)) := by
    show _ = _
    unfold lastI
    rw [h.1]
  have HL2 := hide h2.1
  have HCE : m = 0 ∨ ∃ bb off, ao2 = some ⟨bb, off, none⟩ ∧ Hid (∀ W, Below w.heap.size w W → EnAt W bb off es) := by
    rcases h2.2.2.2.2 with h5 | ⟨bb, off, e, hc⟩
    · exact .inl h5
    · exact .inr ⟨bb, off, e, fun W hW => hc.below hW⟩
  clear h h2 hm hes
  obtain ⟨rr, hrr⟩ : ∃ rr, rr = mgdR ⟨b, t, l⟩ es := ⟨_, rfl⟩
  have HRR := hide hrr
  rw [← hrr]
  clear hrr
  go_enter Tryz.func67, Tryz.ntmps67
  go_wp2
  generalize (w.alloc (.cells #[.int .i64 b, .int .i64 t, .slice ao n cap] 85)).alloc (.cells #[.int .i64 0, .int .i64 0, .slice none 0 0] 85) = w0 at HB0 HX0 HY0 hs0 ⊢
  go_loopw [10] (fun ii wr => ∃ k : Nat, k ≤ m ∧ ii = .int .i64 k ∧ Hid (∀ j, j < k → There ⟨b, t, l⟩ (en0 es j)) ∧ Hid (Below w0.heap.size w0 wr)) (fun ii _ => m - (intOf ii).toNat)
  case atStart => exact ⟨0, Nat.zero_le _, rfl, fun j hj => absurd hj (Nat.not_lt_zero j), Below.refl _ _⟩
  case round =>
    obtain ⟨k, hk, rfl, HALL, HBl⟩ := hrel
    have HBr : Hid (Below w.heap.size w wr) := bnx (unhide HB0) (unhide HBl)
    have HXr := hide ((unhide HX0).below (unhide HBl))
    have HYr := hide ((unhide HY0).below (unhide HBl))
    have hsr : w.heap.size + 2 ≤ wr.heap.size := by have := (unhide HBl).size; omega
    by_cases hlt : k < m
    · rcases HCE with h0 | ⟨bb, off, rfl, HCC⟩
      · omega
      obtain ⟨h0, h1, h2, h3⟩ := (unhide HCC) _ (unhide HBr) k (by rw [unhide HL2]; exact hlt)
      have hx := unhide HES k hlt
      obtain ⟨y, hy⟩ : ∃ y, y = (en0 es k).2.1 := ⟨_, rfl⟩
      have HTH : Hid (There ⟨b, t, l⟩ (en0 es k) ↔ termAt ⟨b, t, l⟩ (p + 1 + (k : Int)) = some y) := by
        show _ ↔ _
        unfold There
        rw [hx, hy]
      have HKQ : Hid (p + (k : Int) ≤ b + (n : Int)) := by
        show _ ≤ _
        rcases k with _ | k'
        · simpa using hp2
        · have h4 := unhide HALL k' (by omega)
          unfold There at h4
          rw [unhide HES k' (by omega)] at h4
          by_cases h5 : lastI ⟨b, t, l⟩ < p + 1 + (k' : Int)
          · rw [termAt_none (.inr h5)] at h4; cases h4
          · rw [unhide HI] at h5; omega
      obtain ⟨q, hq⟩ : ∃ q : Nat, p + (k : Int) = b + (q : Int) := ⟨(p + (k : Int) - b).toNat, by omega⟩
      have hqn : q ≤ n := by have := unhide HKQ; omega
      rw [hx] at h0
      rw [← hy] at h1
      generalize (en0 es k).2.2.1 = zk at h2
      generalize (en0 es k).2.2.2 = zs at h3
      have hxq : p + 1 + (k : Int) = b + (q : Int) + 1 := by omega
      rw [hxq] at h0 HTH
      have HQX : Hid ((en0 es k).1 - 1 - b = (q : Int)) := by show _ = _; rw [hx]; omega
      clear hx hq hxq HKQ
      have hsr1 : wr.heap.size < (wr.alloc (.cells #[.int .i64 (b + (q : Int) + 1), .int .i64 y, .int .i64 zk, .string zs] 56)).heap.size := by simp
      have hal : Below wr.heap.size wr (wr.alloc (.cells #[.int .i64 (b + (q : Int) + 1), .int .i64 y, .int .i64 zk, .string zs] 56)) := (Below.refl _ _).alloc (Nat.le_refl _) _
      have HA := hide hal
      clear hal
      obtain ⟨⟨c0, c1, c2⟩, cf⟩ := bx_slot ((unhide HXr).below (unhide HA))
      clear cf
      by_cases hth : termAt ⟨b, t, l⟩ (b + (q : Int) + 1) = some y
      · have HTD := hide (decide_eq_true hth)
        have HALL2 : Hid (∀ j, j < k + 1 → There ⟨b, t, l⟩ (en0 es j)) := fun j hj => by
          rcases Nat.lt_succ_iff_lt_or_eq.1 hj with h4 | h4
          · exact unhide HALL j h4
          · rw [h4]; exact (unhide HTH).2 hth
        clear hth hy HTH
        go_wp2_with fail
        refine (has_any b t ao n cap l _ _ _ ((unhide HE).below (bnx (unhide HBr) (unhide HA))) (unhide HM)).mono ?_
        rw [unhide HTD]
        rintro e w2 ⟨rfl, hb⟩
        have HB2 : Hid (Below w0.heap.size w0 w2) := bnx (unhide HBl) (bnx (unhide HA) hb)
        clear hb
        go_wp2
        go_roundw
        case rel => exact ⟨k + 1, by omega, by go_num, HALL2, HB2⟩
        case measure => simp [intOf]; omega
      · have HTD := hide (decide_eq_false hth)
        have HR : Hid (mgdR ⟨b, t, l⟩ es = splR ⟨b, t, l⟩ q (es.drop k)) := by
          show _ = _
          rw [mgdR_off (by rw [unhide HL2]; exact hlt) (unhide HALL) (fun h => hth ((unhide HTH).1 h))]
          show splR _ ((en0 es k).1 - 1 - b).toNat _ = _
          rw [unhide HQX, Int.toNat_natCast]
        obtain ⟨⟨x, ⟨lb, lt, le⟩⟩, hr⟩ : ∃ r, r = splR ⟨b, t, l⟩ q (es.drop k) := ⟨_, rfl⟩
        have HSR : Hid (splR ⟨b, t, l⟩ q (es.drop k) = (x, ⟨lb, lt, le⟩)) := hr.symm
        have HR2 : Hid (rr = (x, ⟨lb, lt, le⟩)) := by
          show _ = _
          rw [unhide HRR, unhide HR, ← hr]
        clear hr hth hy HTH HR
        go_wp2_with fail
        refine (has_any b t ao n cap l _ _ _ ((unhide HE).below (bnx (unhide HBr) (unhide HA))) (unhide HM)).mono ?_
        rw [unhide HTD]
        rintro e w2 ⟨rfl, hb⟩
        have HB2 : Hid (Below w.heap.size w w2) := bnx (unhide HBr) (bnx (unhide HA) hb)
        have HX2 := hide (((unhide HXr).below (unhide HA)).below hb)
        have HY2 := hide (((unhide HYr).below (unhide HA)).below hb)
        have d0 : w2.cell? ⟨wr.heap.size, 0, none⟩ = some (.int .i64 (b + (q : Int) + 1)) := (hb.cell hsr1).trans (by simp)
        have hs2 : w.heap.size + 2 ≤ w2.heap.size := by have := hb.size; omega
        clear hb c0 c1 c2
        obtain ⟨⟨c0, c1, c2⟩, _⟩ := bx_slot (unhide HX2)
        have hwq : IntKind.i64.wrap (b + (q : Int) + 1 - 1) = b + (q : Int) := by rw [IntKind.wrap_i64]; omega
        have hwq3 : IntKind.i64.wrap (b + (q : Int)) = b + (q : Int) := by rw [IntKind.wrap_i64]; omega
        have HBD : Hid (Below w2.heap.size w2 w2.drew) := below_drewN (Below.refl _ _) 1
        go_wp2_with fail
        refine wp_region_noPanic ?_
        refine wp_region_held_drew (S := fun W => W.cell? ⟨w.heap.size, 0, none⟩ = some (.int .i64 b) ∧ W.cell? ⟨w.heap.size, 1, none⟩ = some (.int .i64 t) ∧ W.cell? ⟨w.heap.size, 2, none⟩ = some (.slice ao n cap) ∧ W.cell? ⟨wr.heap.size, 0, none⟩ = some (.int .i64 (b + (q : Int) + 1))) (by kernel_rfl) ⟨c0, c1, c2, d0⟩ (fun hHeld => ?_)
        refine rtk 0 (h := ?_)
        refine rtk 1 (h := ?_)
        refine rtk 2 (h := ?_)
        refine rtk 3 (h := ?_)
        refine rtk 4 (h := ?_)
        refine rtk 5 (h := ?_)
        refine rtk 6 (v := .slice (hiA (some ⟨bb, off, none⟩) 4 cap2 k) (m - k) (cap2 - k)) (hy := Or.inl ⟨by rfl, fun W _ => ents_hi _ _ _ _ _ _ _ _ _ _ _ rfl rfl (by omega) W⟩) (h := ?_)
        refine rcl 7 (h := fun K hK => ?_)
        go_simp
        (try rw [hwq])
        (try rw [hwq3])
        refine (spliced_any b t ao n cap q l (hiA (some ⟨bb, off, none⟩) 4 cap2 k) (m - k) (cap2 - k) (es.drop k) _ ((unhide HE).below (bnx (unhide HB2) (unhide HBD))) (((unhide HE2).below (bnx (unhide HB2) (unhide HBD))).hi k hk) hqn).mono ?_
        rw [unhide HSR]
        rintro e w5 ⟨⟨E, a5, n5, c5, rfl, HO5, HE5⟩, HB5⟩
        have HBw5 : Hid (Below w.heap.size w w5) := bnx (bnx (unhide HB2) (unhide HBD)) (unhide HB5)
        have HX5 := hide (((unhide HX2).below (unhide HBD)).below (unhide HB5))
        have HY5 := hide (((unhide HY2).below (unhide HBD)).below (unhide HB5))
        have d5 : w5.cell? ⟨wr.heap.size, 0, none⟩ = some (.int .i64 (b + (q : Int) + 1)) := ((unhide HB5).cell (cell_lt hHeld.2.2.2)).trans hHeld.2.2.2
        have hwr0 : wr.heap.size ≠ w.heap.size + 1 := by omega
        have hS5 := (bx_slot (unhide HX5)).1
        refine hK.out _ _ ⟨hS5.1, hS5.2.1, hS5.2.2, d5⟩ (fun hHeld2 => ?_)
        clear hK K hHeld c0 c1 c2 d0 d5 hS5
        refine rtk 8 (h := ?_)
        refine rtk 9 (h := ?_)
        obtain ⟨⟨z0, z1, z2⟩, zf0, zf1, zf2⟩ := bx_slot (unhide HY5)
        refine rcl 10 (h := fun K hK => ?_)
        go_simp
        have hfr := put3_fr w5 (w.heap.size + 1) (.int .i64 lb) (.int .i64 lt) (.slice a5 n5 c5)
        refine hK.out _ _ ⟨hfr.cell (by omega) hHeld2.1, hfr.cell (by omega) hHeld2.2.1, hfr.cell (by omega) hHeld2.2.2.1, hfr.cell hwr0 hHeld2.2.2.2⟩ (fun hHeld3 => ?_)
        clear hK K hHeld2
        refine rcl 11 (h := fun K hK => ?_)
        go_simp
        refine hK.out _ _ hHeld3 (fun hHeld4 => ?_)
        clear hK K
        refine wpAnyH_done (by kernel_rfl) ?_ _
        refine NoPanic.normal ?_
        go_wp2
        refine bodyPost_ret (res_le (B := w.heap.size + 1) rfl rfl (put3_bx (unhide HY5) _ _ _)) rfl ?_
        rw [unhide HR2]
        exact ⟨⟨_, _, _, _, rfl, ((unhide HO5).put3 (by have := (unhide HBD).size; omega)).mono (by have := (unhide HBD).size; omega), HE5⟩, put3_below (unhide HBw5) (by omega)⟩
    · obtain rfl : m = k := by omega
      have HR2 : Hid (rr = (0, ⟨b, t, l⟩)) := by
        show _ = _
        rw [unhide HRR, mgdR_all (by rw [unhide HL2]; exact unhide HALL)]
      obtain ⟨⟨c0, c1, c2⟩, cf⟩ := bx_slot (unhide HXr)
      clear cf
      go_wp2_with fail
      refine (own_any b t ao n cap l wr ((unhide HE).below (unhide HBr)) (by omega)).mono ?_
      rintro e w2 ⟨a2, c2', rfl, HO, HB2⟩
      have HBw2 : Hid (Below w.heap.size w w2) := bnx (unhide HBr) (unhide HB2)
      have HY2 := hide ((unhide HYr).below (unhide HB2))
      clear c0 c1 c2
      obtain ⟨⟨z0, z1, z2⟩, zf0, zf1, zf2⟩ := bx_slot (unhide HY2)
      go_wp2
      refine bodyPost_ret (res_le (B := w.heap.size + 1) rfl rfl (put3_bx (unhide HY2) _ _ _)) rfl ?_
      rw [unhide HR2]
      exact ⟨⟨_, _, _, _, rfl, ((unhide HO).put3 (by omega)).mono (by omega), .inl ⟨rfl, rfl⟩⟩, put3_below (unhide HBw2) (by omega)⟩
end Go.Proofs.YtmmhdhpocjnlbaaGreatDoor.Et
