/- Proved here: the contract of slices.BinarySearchFunc at retain's messages and order. Helper contract. -/
import Derived.Test.YtknbgnoahfeigaaGreatDoorZMDrop
import Derived.Deep.LoopGhost
namespace Go.Proofs.YtknbgnoahfeigaaGreatDoor.M
open Go.RowKit
set_option maxRecDepth 100000

theorem cb_trans : ∀ (x y z : List UInt8), Lib.compareBytes x y < 0 → Lib.compareBytes y z < 0 → Lib.compareBytes x z < 0
  | [], [], _, h, _ => by simp [Lib.compareBytes] at h
  | [], _ :: _, [], _, h => by simp [Lib.compareBytes] at h
  | [], _ :: _, _ :: _, _, _ => by simp [Lib.compareBytes]
  | _ :: _, [], _, h, _ => by simp [Lib.compareBytes] at h
  | _ :: _, _ :: _, [], _, h => by simp [Lib.compareBytes] at h
  | a :: x, b :: y, c :: z, h1, h2 => by
    rw [Lib.compareBytes] at h1 h2 ⊢
    simp only [UInt8.lt_iff_toNat_lt] at h1 h2 ⊢
    by_cases k1 : a.toNat < b.toNat
    · by_cases k2 : b.toNat < c.toNat
      · rw [if_pos (by omega)]; omega
      · rw [if_neg k2] at h2
        by_cases k3 : c.toNat < b.toNat
        · rw [if_pos k3] at h2; omega
        · rw [if_pos (by omega)]; omega
    · rw [if_neg k1] at h1
      by_cases k3 : b.toNat < a.toNat
      · rw [if_pos k3] at h1; omega
      · rw [if_neg k3] at h1
        by_cases k2 : b.toNat < c.toNat
        · rw [if_pos (by omega)]; omega
        · rw [if_neg k2] at h2
          by_cases k4 : c.toNat < b.toNat
          · rw [if_pos k4] at h2; omega
          · rw [if_neg k4] at h2
            rw [if_neg (by omega), if_neg (by omega)]
            exact cb_trans x y z h1 h2
theorem cb_zero : ∀ (x y : List UInt8), Lib.compareBytes x y = 0 → x = y
  | [], [], _ => rfl
  | [], _ :: _, h => by simp [Lib.compareBytes] at h
  | _ :: _, [], h => by simp [Lib.compareBytes] at h
  | a :: x, b :: y, h => by
    rw [Lib.compareBytes] at h
    simp only [UInt8.lt_iff_toNat_lt] at h
    split at h
    · omega
    · split at h
      · omega
      · rw [UInt8.toNat_inj.1 (by omega : a.toNat = b.toNat), cb_zero x y h]
theorem cb_self : ∀ (x : List UInt8), Lib.compareBytes x x = 0
  | [] => rfl
  | a :: x => by
    rw [Lib.compareBytes, if_neg (by simp), if_neg (by simp)]
    exact cb_self x
theorem cmpB_zero (a b : ByteArray) : cmpB a b = 0 ↔ a = b := by
  constructor
  · intro h
    exact ByteArray.ext (Array.toList_inj.1 (cb_zero _ _ h))
  · rintro rfl
    exact cb_self _
theorem may_lt {l : List Mg} (h : mayL l) : ∀ d j, j + d + 1 < l.length → cmpB (l.getD j mg0).topic (l.getD (j + d + 1) mg0).topic < 0
  | 0, j, hj => by
    have := h (j + 1) hj
    rw [okAt_succ] at this
    simp only [Bool.and_eq_true, decide_eq_true_eq] at this
    exact this.2
  | d + 1, j, hj => by
    have h1 := may_lt h d j (by omega)
    have h2 := h (j + d + 1 + 1) hj
    rw [okAt_succ] at h2
    simp only [Bool.and_eq_true, decide_eq_true_eq] at h2
    exact cb_trans _ _ _ h1 h2.2
theorem may_mono {l : List Mg} (h : mayL l) (t : ByteArray) : ∀ a b, a ≤ b → b < l.length → cmpB (l.getD b mg0).topic t < 0 → cmpB (l.getD a mg0).topic t < 0 := by
  intro a b hab hb ht
  rcases Nat.eq_or_lt_of_le hab with e | e
  · rw [e]; exact ht
  · have := may_lt h (b - a - 1) a (by omega)
    rw [show a + (b - a - 1) + 1 = b from by omega] at this
    exact cb_trans _ _ _ this ht
/-- the place of a topic in a list -/
def At (l : List Mg) (t : ByteArray) (k : Nat) : Prop := k ≤ l.length ∧ (∀ j, j < k → cmpB (l.getD j mg0).topic t < 0) ∧ (∀ j, k ≤ j → j < l.length → 0 ≤ cmpB (l.getD j mg0).topic t)
theorem At.uniq {l : List Mg} {t : ByteArray} {k k' : Nat} (h : At l t k) (h' : At l t k') : k = k' := by
  rcases Nat.lt_trichotomy k k' with e | e | e
  · have h1 := h'.2.1 k e
    have h2 := h.2.2 k (Nat.le_refl _) (by have := h'.1; omega)
    omega
  · exact e
  · have h1 := h.2.1 k' e
    have h2 := h'.2.2 k' (Nat.le_refl _) (by have := h.1; omega)
    omega
/-- is a message of that topic there? -/
def thr (l : List Mg) (t : ByteArray) (k : Nat) : Bool := decide (k < l.length) && decide (cmpB (l.getD k mg0).topic t = 0)
set_option maxHeartbeats 8000000 in
theorem bs_core (b off cap : Nat) (l : List Mg) (t : ByteArray) (len : Nat) (w : World) (hlen : l.length = len) (hmx : len ≤ 1000000000) (hm : mayL l) (hl : MgAt w b off l) :
    Calls Tryz.prog 31 #[.slice (some ⟨b, off, none⟩) len cap, .string t, .func (.func 32) #[] #[]] w fun e w' => ∃ k : Nat, e = .returned (.tuple #[.int .i64 k, .bool (thr l t k)]) ∧ Hid (At l t k) ∧ Below w.heap.size w w' := by
  have HL := hide hl
  have HM := hide (may_mono hm t)
  rw [hlen] at HM
  have HLEN := hide hlen
  clear hl hm hlen
  go_enter Tryz.func31, Tryz.ntmps31
  go_wp2
  go_loopg [9, 10] len (fun kx s9 s10 wr => ∃ lo hi : Nat, s9 = .int .i64 lo ∧ s10 = .int .i64 hi ∧ lo ≤ hi ∧ hi ≤ len ∧ hi - lo ≤ kx ∧ Hid (Below w.heap.size w wr) ∧ Hid ((∀ j, j < lo → cmpB (l.getD j mg0).topic t < 0) ∧ (∀ j, hi ≤ j → j < len → 0 ≤ cmpB (l.getD j mg0).topic t)))
  case atStart => exact ⟨0, len, rfl, rfl, Nat.zero_le _, Nat.le_refl _, by omega, Below.refl _ _, fun j hj => absurd hj (Nat.not_lt_zero j), fun j h1 h2 => absurd h2 (by omega)⟩
  case round =>
    obtain ⟨lo, hi, rfl, rfl, hlh, hin, hg, HBEL, HI⟩ := hrel
    by_cases hlt : lo < hi
    · obtain ⟨ao, c, ⟨h0, h1, h2, h3, h4, h5, h6⟩, _⟩ := (unhide HL).below (unhide HBEL) ((lo + hi) / 2) (by rw [unhide HLEN]; omega)
      have HMM := hide ((unhide HM))
      have HY : Hid ((l.getD ((lo + hi) / 2) mg0) = (l.getD ((lo + hi) / 2) mg0)) := rfl
      generalize hy : l.getD ((lo + hi) / 2) mg0 = y at h0 h1 h2 h3 h4 h5 h6
      have HYE := hide hy
      clear hy HY
      by_cases hyx : Lib.compareBytes y.topic.data.toList t.data.toList < 0
      · go_wp2_with (go_at_call 32; refine (against_any y _ t _ ⟨_, _, _, rfl⟩).mono ?_; rintro e w2 ⟨rfl, hb2⟩)
        go_roundg (hi - ((lo + hi) / 2 + 1))
        case measure => omega
        case rel =>
          refine ⟨(lo + hi) / 2 + 1, hi, by rw [show ((lo : Int) + (hi : Int)) / 2 + 1 = (((lo + hi) / 2 + 1 : Nat) : Int) by omega], rfl, by omega, hin, Nat.le_refl _, bnx (unhide HBEL) hb2, fun j hj => ?_, (unhide HI).2⟩
          exact (unhide HMM) j ((lo + hi) / 2) (by omega) (by omega) (by rw [unhide HYE]; exact hyx)
      · go_wp2_with (go_at_call 32; refine (against_any y _ t _ ⟨_, _, _, rfl⟩).mono ?_; rintro e w2 ⟨rfl, hb2⟩)
        go_roundg ((lo + hi) / 2 - lo)
        case measure => omega
        case rel =>
          refine ⟨lo, (lo + hi) / 2, rfl, by rw [show ((lo : Int) + (hi : Int)) / 2 = (((lo + hi) / 2 : Nat) : Int) by omega], by omega, by omega, Nat.le_refl _, bnx (unhide HBEL) hb2, (unhide HI).1, fun j hj hjn => Int.not_lt.1 fun h => ?_⟩
          have := (unhide HMM) ((lo + hi) / 2) j hj hjn h
          rw [unhide HYE] at this
          have this2 : Lib.compareBytes y.topic.data.toList t.data.toList < 0 := this
          omega
    · obtain rfl : hi = lo := by omega
      have HAT : Hid (At l t hi) := ⟨by rw [unhide HLEN]; exact hin, (unhide HI).1, fun j h1 h2 => (unhide HI).2 j h1 (by rw [unhide HLEN] at h2; exact h2)⟩
      by_cases hn : hi < len
      · obtain ⟨ao, c, ⟨h0, h1, h2, h3, h4, h5, h6⟩, _⟩ := (unhide HL).below (unhide HBEL) hi (by rw [unhide HLEN]; exact hn)
        have HT : Hid (thr l t hi = decide (cmpB (l.getD hi mg0).topic t = 0)) := by show _ = _; unfold thr; rw [unhide HLEN, decide_eq_true hn]; rfl
        generalize l.getD hi mg0 = y at h0 h1 h2 h3 h4 h5 h6 HT
        go_wp2_with (go_at_call 32; refine (against_any y _ t _ ⟨_, _, _, rfl⟩).mono ?_; rintro e w2 ⟨rfl, hb2⟩)
        go_ret2
        exact ⟨hi, by rw [unhide HT]; first | rfl | simp, HAT, bnx (unhide HBEL) hb2⟩
      · have HT : Hid (thr l t hi = false) := by show _ = _; unfold thr; rw [unhide HLEN, decide_eq_false hn]; rfl
        go_wp2
        go_ret2
        exact ⟨hi, by rw [unhide HT]; first | rfl | simp, HAT, unhide HBEL⟩
theorem bs_nil (ao : Option Addr) (cap : Nat) (t : ByteArray) (w : World) :
    Calls Tryz.prog 31 #[.slice ao 0 cap, .string t, .func (.func 32) #[] #[]] w fun e w' => e = .returned (.tuple #[.int .i64 0, .bool false]) ∧ w' = w := by
  go_enter Tryz.func31, Tryz.ntmps31
  go_wp2
  refine wp_loop_rounds 1 ?_
  rw [rounds_succ]
  go_wp2
  go_ret2
  exact ⟨rfl, rfl⟩
theorem bs_any (v : Value) (l : List Mg) (t : ByteArray) (w : World) (hmx : l.length ≤ 1000000000) (hm : mayL l) (h : Mgs w v l) :
    Calls Tryz.prog 31 #[v, .string t, .func (.func 32) #[] #[]] w fun e w' => ∃ k : Nat, e = .returned (.tuple #[.int .i64 k, .bool (thr l t k)]) ∧ Hid (At l t k) ∧ Below w.heap.size w w' := by
  obtain ⟨ao, cap, rfl, hcap, rfl | ⟨b, off, rfl, hc⟩⟩ := h
  · refine (bs_nil ao cap t w).mono ?_
    rintro e w' ⟨rfl, rfl⟩
    exact ⟨0, rfl, ⟨Nat.le_refl _, fun j hj => absurd hj (Nat.not_lt_zero j), fun j _ hj => absurd hj (Nat.not_lt_zero j)⟩, Below.refl _ _⟩
  · exact bs_core b off cap l t _ w rfl hmx hm hc
end Go.Proofs.YtknbgnoahfeigaaGreatDoor.M
