/- Proved here: entries.termAt and dovecoteref15.Term: the term of an index of a log that may be. Helper contracts. -/
import Derived.Test.YtcffbkgkdoaplaaDoorZELs
namespace Go.Proofs.YtcffbkgkdoaplaaDoor.Et
open Go.RowKit Nt
set_option maxRecDepth 100000

theorem termAt_none {L : Lo} {i : Int} (h : i < L.b ∨ lastI L < i) : termAt L i = none := if_pos h
theorem termAt_some {L : Lo} {i : Int} (h1 : L.b ≤ i) (h2 : i ≤ lastI L) : termAt L i = some (tmB L.t L.es (i - L.b).toNat) := if_neg (by omega)
/-- what termAt tells of an index -/
def tmRes : Option Int → Value
  | none => .tuple #[.int .i64 0, .iface 71 (.int .i64 8)]
  | some t => .tuple #[.int .i64 t, .nilIface]
def tmRes2 : Option Int → Value
  | none => .tuple #[.int .i64 0, .bool false]
  | some t => .tuple #[.int .i64 t, .bool true]
theorem tmR_some {o : Option Int} {t : Int} (h : o = some t) : Ending.returned (.tuple #[.int .i64 t, .nilIface]) = .returned (tmRes o) := by rw [h]; rfl
theorem tmR2_some {o : Option Int} {t : Int} (h : o = some t) : Ending.returned (.tuple #[.int .i64 t, .bool true]) = .returned (tmRes2 o) := by rw [h]; rfl
theorem tmR_none {o : Option Int} (h : o = none) : Ending.returned (.tuple #[.int .i64 0, .iface 71 (.int .i64 8)]) = .returned (tmRes o) := by rw [h]; rfl
theorem tmR2_none {o : Option Int} (h : o = none) : Ending.returned (.tuple #[.int .i64 0, .bool false]) = .returned (tmRes2 o) := by rw [h]; rfl
set_option maxHeartbeats 4000000 in
theorem termAt_any (b t : Int) (ao : Option Addr) (n cap : Nat) (l : List En) (i : Int) (w : World) (h : Es w ao n cap l) (hm : May ⟨b, t, l⟩) :
    Calls Tryd.prog 38 #[.agg #[.int .i64 b, .int .i64 t, .slice ao n cap], .int .i64 i] w fun e w' => e = .returned (tmRes (termAt ⟨b, t, l⟩ i)) ∧ Below w.heap.size w w' := by
  have HB0 : Hid (Below w.heap.size w (w.alloc (.cells #[.int .i64 b, .int .i64 t, .slice ao n cap] 25))) := (Below.refl _ _).alloc (Nat.le_refl _) _
  have HE := hide h
  have HM := hide hm
  obtain ⟨I, hI⟩ : ∃ I, I = lastI ⟨b, t, l⟩ := ⟨_, rfl⟩
  have HI := hide hI
  have hIn : I = b + (n : Int) := by rw [hI]; unfold lastI; show b + (l.length : Int) = _; rw [h.1]
  have hb1 : 0 ≤ b := hm.1.1
  have hb2 : b ≤ 1099511625728 := hm.1.2.1
  obtain ⟨d, hd⟩ : ∃ d, d = termAt ⟨b, t, l⟩ i := ⟨_, rfl⟩
  have HNN : Hid (i < b ∨ I < i → d = none) := fun h => by rw [hd]; exact termAt_none (by rw [← hI]; exact h)
  have HSS : Hid (b ≤ i → i ≤ I → d = some (tmB t l (i - b).toNat)) := fun h1 h2 => by rw [hd]; exact termAt_some h1 (by rw [← hI]; exact h2)
  rw [← hd]
  clear hd hI h hm
  have HL := fun W (hW : Below w.heap.size w W) => last_any b t ao n cap l W ((unhide HE).below hW) (unhide HM)
  rw [← unhide HI] at HL
  have HLS := hide HL
  clear HL
  by_cases h1 : i < b
  · have HF : Hid (d = none) := unhide HNN (.inl h1)
    clear HNN HSS hIn
    go_enter Tryd.func38, Tryd.ntmps38
    go_wp2_with fail
    refine (unhide HLS _ (unhide HB0)).mono ?_
    rintro e w2 ⟨rfl, hb⟩
    have HB : Hid (Below w.heap.size w w2) := bnx (unhide HB0) hb
    have c0 : w2.cell? ⟨w.heap.size, 0, none⟩ = some (.int .i64 b) := (hb.cell (by simp)).trans (by simp)
    clear hb
    go_wp2
    go_ret2
    exact ⟨tmR_none (unhide HF), unhide HB⟩
  · by_cases h2 : I < i
    · have HF : Hid (d = none) := unhide HNN (.inr h2)
      clear HNN HSS hIn
      go_enter Tryd.func38, Tryd.ntmps38
      go_wp2_with fail
      refine (unhide HLS _ (unhide HB0)).mono ?_
      rintro e w2 ⟨rfl, hb⟩
      have HB : Hid (Below w.heap.size w w2) := bnx (unhide HB0) hb
      have c0 : w2.cell? ⟨w.heap.size, 0, none⟩ = some (.int .i64 b) := (hb.cell (by simp)).trans (by simp)
      clear hb
      go_wp2
      go_ret2
      exact ⟨tmR_none (unhide HF), unhide HB⟩
    · have HF0 : Hid (d = some (tmB t l (i - b).toNat)) := unhide HSS (by omega) (by omega)
      by_cases h3 : i = b
      · have HF : Hid (d = some t) := by
          show _ = _
          rw [unhide HF0, h3, Int.sub_self]; rfl
        clear HNN HSS hIn HF0
        subst h3
        go_enter Tryd.func38, Tryd.ntmps38
        go_wp2_with fail
        refine (unhide HLS _ (unhide HB0)).mono ?_
        rintro e w2 ⟨rfl, hb⟩
        have HB : Hid (Below w.heap.size w w2) := bnx (unhide HB0) hb
        have c0 : w2.cell? ⟨w.heap.size, 0, none⟩ = some (.int .i64 i) := (hb.cell (by simp)).trans (by simp)
        have c1 : w2.cell? ⟨w.heap.size, 1, none⟩ = some (.int .i64 t) := (hb.cell (by simp)).trans (by simp)
        clear hb
        go_wp2
        go_ret2
        exact ⟨tmR_some (unhide HF), unhide HB⟩
      · obtain ⟨k, hk⟩ : ∃ k : Nat, i = b + 1 + (k : Int) := ⟨(i - b - 1).toNat, by omega⟩
        have hkn : k < n := by omega
        obtain ⟨k1, k2, k3, k4, k5⟩ := unhide HE
        rcases k5 with k5 | ⟨bb, off, rfl, hc⟩
        · omega
        have HF : Hid (d = some (en0 l k).2.1) := by
          show _ = _
          rw [unhide HF0, show (i - b).toNat = k + 1 by omega]; rfl
        have HC : Hid (∀ W, Below w.heap.size w W → W.cell? ⟨bb, off + k * 4 + 1, none⟩ = some (.int .i64 (en0 l k).2.1)) := fun W hW => ((hc.below hW) k (by omega)).2.1
        generalize (en0 l k).2.1 = y at HF HC
        clear HNN HSS HF0 k1 k2 k3 hc
        subst hk
        go_enter Tryd.func38, Tryd.ntmps38
        go_wp2_with fail
        refine (unhide HLS _ (unhide HB0)).mono ?_
        rintro e w2 ⟨rfl, hb⟩
        have HB : Hid (Below w.heap.size w w2) := bnx (unhide HB0) hb
        have c0 : w2.cell? ⟨w.heap.size, 0, none⟩ = some (.int .i64 b) := (hb.cell (by simp)).trans (by simp)
        have c2 : w2.cell? ⟨w.heap.size, 2, none⟩ = some (.slice (some ⟨bb, off, none⟩) n cap) := (hb.cell (by simp)).trans (by simp)
        have cy : w2.cell? ⟨bb, off + ((b + 1 + (k : Int) - b).toNat - 1) * 4 + 1, none⟩ = some (.int .i64 y) := by
          rw [show (b + 1 + (k : Int) - b).toNat - 1 = k by omega]
          exact unhide HC _ (unhide HB)
        have hi1 : wrap64 (b + 1 + (k : Int) - b - 1) = (k : Int) := by unfold wrap64; omega
        have hi0 : wrap64 (b + 1 + (k : Int) - b) = 1 + (k : Int) := by unfold wrap64; omega
        have hi2 : wrap64 (1 + (k : Int) - 1) = (k : Int) := by unfold wrap64; omega
        have h3d : (b + 1 + (k : Int) == b) = false := beq_eq_false_iff_ne.2 (by omega)
        clear hb
        go_wp2
        go_ret2
        exact ⟨tmR_some (unhide HF), unhide HB⟩
set_option maxHeartbeats 4000000 in
theorem termP_any (b t : Int) (ao : Option Addr) (n cap : Nat) (l : List En) (i : Int) (w : World) (h : Es w ao n cap l) (hm : May ⟨b, t, l⟩) :
    Calls Tryd.prog 14 #[.agg #[.int .i64 b, .int .i64 t, .slice ao n cap], .int .i64 i] w fun e w' => e = .returned (tmRes2 (termAt ⟨b, t, l⟩ i)) ∧ Below w.heap.size w w' := by
  have HB0 : Hid (Below w.heap.size w (w.alloc (.cells #[.int .i64 b, .int .i64 t, .slice ao n cap] 25))) := (Below.refl _ _).alloc (Nat.le_refl _) _
  have HE := hide h
  have HM := hide hm
  obtain ⟨I, hI⟩ : ∃ I, I = lastI ⟨b, t, l⟩ := ⟨_, rfl⟩
  have HI := hide hI
  have hIn : I = b + (n : Int) := by rw [hI]; unfold lastI; show b + (l.length : Int) = _; rw [h.1]
  have hb1 : 0 ≤ b := hm.1.1
  have hb2 : b ≤ 1099511625728 := hm.1.2.1
  obtain ⟨d, hd⟩ : ∃ d, d = termAt ⟨b, t, l⟩ i := ⟨_, rfl⟩
  have HNN : Hid (i < b ∨ I < i → d = none) := fun h => by rw [hd]; exact termAt_none (by rw [← hI]; exact h)
  have HSS : Hid (b ≤ i → i ≤ I → d = some (tmB t l (i - b).toNat)) := fun h1 h2 => by rw [hd]; exact termAt_some h1 (by rw [← hI]; exact h2)
  rw [← hd]
  clear hd hI h hm
  have HL := fun W (hW : Below w.heap.size w W) => lastP_any b t ao n cap l W ((unhide HE).below hW) (unhide HM)
  rw [← unhide HI] at HL
  have HLS := hide HL
  clear HL
  by_cases h1 : i < b
  · have HF : Hid (d = none) := unhide HNN (.inl h1)
    clear HNN HSS hIn
    go_enter Tryd.func14, Tryd.ntmps14
    go_wp2_with fail
    refine (unhide HLS _ (unhide HB0)).mono ?_
    rintro e w2 ⟨rfl, hb⟩
    have HB : Hid (Below w.heap.size w w2) := bnx (unhide HB0) hb
    have c0 : w2.cell? ⟨w.heap.size, 0, none⟩ = some (.int .i64 b) := (hb.cell (by simp)).trans (by simp)
    clear hb
    go_wp2
    go_ret2
    exact ⟨tmR2_none (unhide HF), unhide HB⟩
  · by_cases h2 : I < i
    · have HF : Hid (d = none) := unhide HNN (.inr h2)
      clear HNN HSS hIn
      go_enter Tryd.func14, Tryd.ntmps14
      go_wp2_with fail
      refine (unhide HLS _ (unhide HB0)).mono ?_
      rintro e w2 ⟨rfl, hb⟩
      have HB : Hid (Below w.heap.size w w2) := bnx (unhide HB0) hb
      have c0 : w2.cell? ⟨w.heap.size, 0, none⟩ = some (.int .i64 b) := (hb.cell (by simp)).trans (by simp)
      clear hb
      go_wp2
      go_ret2
      exact ⟨tmR2_none (unhide HF), unhide HB⟩
    · have HF0 : Hid (d = some (tmB t l (i - b).toNat)) := unhide HSS (by omega) (by omega)
      by_cases h3 : i = b
      · have HF : Hid (d = some t) := by
          show _ = _
          rw [unhide HF0, h3, Int.sub_self]; rfl
        clear HNN HSS hIn HF0
        subst h3
        go_enter Tryd.func14, Tryd.ntmps14
        go_wp2_with fail
        refine (unhide HLS _ (unhide HB0)).mono ?_
        rintro e w2 ⟨rfl, hb⟩
        have HB : Hid (Below w.heap.size w w2) := bnx (unhide HB0) hb
        have c0 : w2.cell? ⟨w.heap.size, 0, none⟩ = some (.int .i64 i) := (hb.cell (by simp)).trans (by simp)
        have c1 : w2.cell? ⟨w.heap.size, 1, none⟩ = some (.int .i64 t) := (hb.cell (by simp)).trans (by simp)
        clear hb
        go_wp2
        go_ret2
        exact ⟨tmR2_some (unhide HF), unhide HB⟩
      · obtain ⟨k, hk⟩ : ∃ k : Nat, i = b + 1 + (k : Int) := ⟨(i - b - 1).toNat, by omega⟩
        have hkn : k < n := by omega
        obtain ⟨k1, k2, k3, k4, k5⟩ := unhide HE
        rcases k5 with k5 | ⟨bb, off, rfl, hc⟩
        · omega
        have HF : Hid (d = some (en0 l k).2.1) := by
          show _ = _
          rw [unhide HF0, show (i - b).toNat = k + 1 by omega]; rfl
        have HC : Hid (∀ W, Below w.heap.size w W → W.cell? ⟨bb, off + k * 4 + 1, none⟩ = some (.int .i64 (en0 l k).2.1)) := fun W hW => ((hc.below hW) k (by omega)).2.1
        generalize (en0 l k).2.1 = y at HF HC
        clear HNN HSS HF0 k1 k2 k3 hc
        subst hk
        go_enter Tryd.func14, Tryd.ntmps14
        go_wp2_with fail
        refine (unhide HLS _ (unhide HB0)).mono ?_
        rintro e w2 ⟨rfl, hb⟩
        have HB : Hid (Below w.heap.size w w2) := bnx (unhide HB0) hb
        have c0 : w2.cell? ⟨w.heap.size, 0, none⟩ = some (.int .i64 b) := (hb.cell (by simp)).trans (by simp)
        have c2 : w2.cell? ⟨w.heap.size, 2, none⟩ = some (.slice (some ⟨bb, off, none⟩) n cap) := (hb.cell (by simp)).trans (by simp)
        have cy : w2.cell? ⟨bb, off + ((b + 1 + (k : Int) - b).toNat - 1) * 4 + 1, none⟩ = some (.int .i64 y) := by
          rw [show (b + 1 + (k : Int) - b).toNat - 1 = k by omega]
          exact unhide HC _ (unhide HB)
        have hi1 : wrap64 (b + 1 + (k : Int) - b - 1) = (k : Int) := by unfold wrap64; omega
        have hi0 : wrap64 (b + 1 + (k : Int) - b) = 1 + (k : Int) := by unfold wrap64; omega
        have hi2 : wrap64 (1 + (k : Int) - 1) = (k : Int) := by unfold wrap64; omega
        have h3d : (b + 1 + (k : Int) == b) = false := beq_eq_false_iff_ne.2 (by omega)
        clear hb
        go_wp2
        go_ret2
        exact ⟨tmR2_some (unhide HF), unhide HB⟩
end Go.Proofs.YtcffbkgkdoaplaaDoor.Et
