/- Proved here: what dovecotelaw0.PropsWeight and dovecotelaw3.heavy say of properties that are let pass. Helper contracts. -/
import Derived.Test.YtpfpollejhdbgaaDoorPAsks
import Derived.Handy
namespace Go.Proofs.YtpfpollejhdbgaaDoor
open Go.RowKit
set_option maxRecDepth 100000

def WeightPost (l : List Pr) (w : World) (e : Ending) (w' : World) : Prop := ∃ r : Int, e = .returned (.int .i64 r) ∧ Hid (∀ k, k < l.length → k < 1000 → ((at0 l k).2.2.1.size : Int) ≤ r ∧ ((at0 l k).2.2.2.size : Int) ≤ r) ∧ ∃ q, w' = w.drewN q
set_option maxHeartbeats 1000000 in
theorem weight_core (b off cap : Nat) (l : List Pr) (len : Nat) (w : World) (hlen : l.length = len) (hh : Held l) (hl : PrAt w b off l) :
    Calls Tryd.prog 10 #[.slice (some ⟨b, off, none⟩) len cap] w (WeightPost l w) := by
  have hmx : len ≤ 140737488351232 := hlen ▸ hh.1
  have HL := hide hl
  have HLEN := hide hlen
  have HH := hide hh
  clear hl hlen hh
  go_enter Tryd.func10, Tryd.ntmps10
  go_wp2
  go_loopw [3, 4] (fun n i wr => ∃ k N q : Nat, k ≤ len ∧ k ≤ 1000 ∧ i = .int .i64 k ∧ n = .int .i64 N ∧ N ≤ len + k * 281474976702464 ∧ wr = w.drewN q ∧ Hid (∀ j, j < k → ((at0 l j).2.2.1.size) ≤ N ∧ ((at0 l j).2.2.2.size) ≤ N)) (fun _ i _ => 1000 - (intOf i).toNat)
  case atStart => exact ⟨0, len, 0, Nat.zero_le _, by omega, rfl, rfl, by omega, rfl, fun j hj => absurd hj (Nat.not_lt_zero j)⟩
  case round =>
    obtain ⟨k, N, q, hk, hk1, rfl, rfl, hN, rfl, HS⟩ := hrel
    by_cases hlt : k < len ∧ k < 1000
    · obtain ⟨hlt, hlt1⟩ := hlt
      obtain ⟨-, -, h2, h3⟩ := (unhide HL) k (by rw [unhide HLEN]; exact hlt)
      have hsz := (unhide HH).2 k (by rw [unhide HLEN]; exact hlt)
      have HP := hide (rfl : at0 l k = at0 l k)
      generalize hp : at0 l k = p at h2 h3 hsz
      obtain ⟨id, n, s, t⟩ := p
      have HE := hide hp
      simp only at h2 h3 hsz
      obtain ⟨hs1, hs2⟩ := hsz
      clear hp HP
      go_wp2
      go_quiet (fail)
      go_wp2
      go_roundw
      case rel => exact ⟨k + 1, N + s.size + t.size, _, by omega, by omega, by go_num, by go_num, by omega, rfl, fun j hj => by
        rcases Nat.lt_succ_iff_lt_or_eq.1 hj with h | h
        · have := (unhide HS) j h; omega
        · rw [h, unhide HE]; simp only; omega⟩
      case measure => simp [intOf]; omega
    · have HF : Hid (∀ j, j < l.length → j < 1000 → ((at0 l j).2.2.1.size : Int) ≤ N ∧ ((at0 l j).2.2.2.size : Int) ≤ N) := fun j hj hj1 => by
        rw [unhide HLEN] at hj
        have := (unhide HS) j (by omega)
        omega
      by_cases hlt1 : k < len
      · obtain rfl : k = 1000 := by omega
        go_wp2
        go_ret
        exact ⟨_, rfl, HF, _, rfl⟩
      · go_wp2
        go_ret
        exact ⟨_, rfl, HF, _, rfl⟩
theorem weight_nil (ao : Option Addr) (cap : Nat) (w : World) : Calls Tryd.prog 10 #[.slice ao 0 cap] w (WeightPost [] w) := by
  go_enter Tryd.func10, Tryd.ntmps10
  go_wp2
  refine wp_loop_rounds 1 ?_
  rw [rounds_succ]
  go_wp2
  go_ret
  exact ⟨_, rfl, fun k hk => absurd hk (Nat.not_lt_zero k), 0, rfl⟩
theorem weight_any (v : Value) (l : List Pr) (w : World) (h : Prp w v l) (hh : Held l) : Calls Tryd.prog 10 #[v] w (WeightPost l w) := by
  obtain ⟨ao, cap, rfl, hc⟩ := h
  rcases hc with rfl | ⟨b, off, rfl, hc⟩
  · exact weight_nil ao cap w
  · exact weight_core b off cap l _ w rfl hh hc
/-- what is let pass -/
def Light (l : List Pr) (n : Nat) : Prop := l.length ≤ 200 ∧ n ≤ 5000 ∧ ∀ k, k < l.length → (at0 l k).2.2.1.size ≤ 70000 ∧ (at0 l k).2.2.2.size ≤ 70000
theorem Light.small {l : List Pr} {n : Nat} (h : Light l n) : Small l := fun k hk => by have := h.2.2 k hk; omega
def HeavyPost (l : List Pr) (n : Nat) (w : World) (e : Ending) (w' : World) : Prop := ∃ b : Bool, e = .returned (.bool b) ∧ Hid (b = false → Light l n) ∧ Below w.heap.size w w'
theorem heavy_any (vl : Value) (l : List Pr) (p : Int) (ao : Option Addr) (n cap : Nat) (w : World) (h : Prp w vl l) (hh : Held l) (hn : n ≤ 140737488351232) :
    Calls Tryd.prog 9 #[.agg #[vl, .int .i64 p, .slice ao n cap]] w (HeavyPost l n w) := by
  have hmx : l.length ≤ 140737488351232 := hh.1
  have HW := hide (fun W (hb : Below w.heap.size w W) => weight_any vl l W (h.below hb) hh)
  obtain ⟨lo, lc, hv⟩ := h.form
  clear h hh
  generalize hle : l.length = len at hv hmx
  have HLE := hide hle
  clear hle
  subst hv
  go_enter Tryd.func9, Tryd.ntmps9
  go_wp2_with fail
  refine ((unhide HW) _ ((Below.refl _ _).alloc (Nat.le_refl _) _)).mono ?_
  rintro e w1 ⟨r, rfl, HR, q, hw1⟩
  obtain rfl := hw1
  have HB : Hid (Below w.heap.size w ((w.alloc (.cells #[.slice lo len lc, .int .i64 p, .slice ao n cap] 26)).drewN q)) := below_drewN ((Below.refl _ _).alloc (Nat.le_refl _) _) q
  by_cases h1 : 70000 < r
  · go_wp2
    go_ret
    exact ⟨_, rfl, fun h => (by cases h), unhide HB⟩
  by_cases h2 : 200 < len
  · go_wp2
    go_ret
    exact ⟨_, rfl, fun h => (by cases h), unhide HB⟩
  by_cases h3 : 5000 < n
  · go_wp2
    go_ret
    exact ⟨_, rfl, fun h => (by exfalso; revert h; simp; omega), unhide HB⟩
  have HLT : Hid (Light l n) := ⟨by rw [unhide HLE]; omega, by omega, fun k hk => by
    have := (unhide HR) k hk (by rw [unhide HLE] at hk; omega)
    omega⟩
  go_wp2
  go_ret
  exact ⟨_, rfl, fun _ => unhide HLT, unhide HB⟩
end Go.Proofs.YtpfpollejhdbgaaDoor
