/- Proved here: helpers, one text behind the other. -/
import Derived.Test.YtpfpollejhdbgaaDoorM8
import Derived.Test.YtpfpollejhdbgaaDoorM5
import Derived.Handy
import Derived.Test.YtpfpollejhdbgaaDoorM3
import Derived.Test.YtpfpollejhdbgaaDoorM4
/- Proved here: prop.Get tells the properties with which bytes begin, and how many bytes, or an error's number (pgt). Helper contracts. -/
namespace Go.Proofs.YtpfpollejhdbgaaDoor
open Go.RowKit
set_option maxRecDepth 100000

/-- the bytes that a length at the beginning tells -/
def pbd (l : List Int) : List Int := (l.drop (ghd l)).take (gid l).toNat
/-- Get's number -/
def pgt (place : Int) (l : List Int) : Int := if (V.vget l).2.2 ≠ 0 then (V.vget l).2.2 else if l.length < ghd l + (gid l).toNat then 3 else rdn place (pbd l)
/-- Get's properties -/
def plist (place : Int) (l : List Int) : List Pr := if pgt place l = 0 then (parse (pbd l)).getD [] else []
/-- .. and how many bytes -/
def psz (place : Int) (l : List Int) : Int := if pgt place l = 0 then ghd l + (gid l).toNat else 0
def GetPost (place : Int) (l : List Int) (w : World) (e : Ending) (w' : World) : Prop :=
  ∃ v E, e = .returned (.tuple #[v, .int .i64 (psz place l), E]) ∧ Hid (w'.ownsRow w.heap.size 49 4 v (plist place l).length (pcs (plist place l))) ∧ Hid (ErrP w' E (pgt place l)) ∧ Below w.heap.size w w'
theorem get_post_bad (place : Int) (l : List Int) (w w' : World) (n : Int) (hp : pgt place l = n) (hn : n ≠ 0) (x : Value) (hE : Hid (ErrP w' (.iface 79 x) n)) (hb : Below w.heap.size w w') : GetPost place l w (.returned (.tuple #[.slice none 0 0, .int .i64 0, .iface 79 x])) w' := by
  refine ⟨.slice none 0 0, .iface 79 x, ?_, ?_, by rw [hp]; exact hE, hb⟩
  · unfold psz
    rw [if_neg (by rw [hp]; exact hn)]
  · show World.ownsRow _ _ _ _ _ _ _
    unfold plist
    rw [if_neg (by rw [hp]; exact hn)]
    exact World.ownsRow_nil _ _ _ _
theorem ghd_le (l : List Int) (h2 : ghd l ≤ l.length) (h : V.put (gid l) = l.take (ghd l)) : ghd l ≤ 4 := by
  have a := congrArg List.length h
  rw [List.length_take, Nat.min_eq_left h2] at a
  have := (V.put_len (gid l)).2
  omega
theorem get3_bad1 (v : Value) (l : List Int) (place : Int) (w : World) (h : Byt w v l) (hv : (V.vget l).2.2 ≠ 0) : Calls Tryd.prog 21 #[v, .int .i64 place] w (GetPost place l w) := by
  have hp : pgt place l = (V.vget l).2.2 := by unfold pgt; rw [if_pos hv]
  obtain ⟨ao, cap, rfl, hc1, hc2⟩ := h.form
  have HV := hide h
  have HP := hide hp
  clear h hp
  generalize hm : (V.vget l).2.2 = m at hv HP
  generalize hn : l.length = n at hc1 HV
  have HM := hide hm
  clear hn hm
  go_enter Tryd.func21, Tryd.ntmps21
  go_wp2_with fail
  refine (vget_fail _ l _ (unhide HV) m (unhide HM) hv).mono ?_
  rintro e w1 ⟨a, b, x, rfl, hi, hb1⟩
  have HB1 := hide hb1
  clear hb1
  go_wp2_with fail
  refine (wrap_use _ m _ (unhide hi)).mono ?_
  rintro e w2 ⟨E, rfl, hE, hb2⟩
  go_wp2
  go_returns
  exact get_post_bad place l w _ m (unhide HP) hv _ hE ((unhide HB1).trans (hb2.mono (unhide HB1).size))
theorem get3_short (v : Value) (l : List Int) (place : Int) (w : World) (h : Byt w v l) (hv : (V.vget l).2.2 = 0) (hs : l.length < ghd l + (gid l).toNat) : Calls Tryd.prog 21 #[v, .int .i64 place] w (GetPost place l w) := by
  have hp : pgt place l = 3 := by unfold pgt; rw [if_neg (by rw [hv]; decide), if_pos hs]
  obtain ⟨hv', h1, h2, h3, h4, h5⟩ := vget_is l h.range hv
  have hQ4 := ghd_le l h2 h5
  clear h5
  obtain ⟨ao, cap, rfl, hc1, hc2⟩ := h.form
  unfold maxLen at hc2
  have HV := hide h
  have HP := hide hp
  clear h hp hv
  obtain ⟨N, hN⟩ : ∃ N : Nat, gid l = N := ⟨(gid l).toNat, by omega⟩
  rw [hN, Int.toNat_natCast] at hs
  rw [hN] at hv' h3 h4
  generalize ghd l = Q at hQ4 hv' h1 h2 hs
  have Hv := hide hv'
  generalize hn : l.length = n at hc1 HV h2 hs
  clear hn hv' hN
  go_enter Tryd.func21, Tryd.ntmps21
  go_wp2_with fail
  refine (vget_good _ l _ (unhide HV) N Q (unhide Hv)).mono ?_
  rintro e w1 ⟨rfl, hb1⟩
  have HB1 := hide hb1
  clear hb1
  go_wp2_with fail
  refine (pfault_use 3 _).mono ?_
  rintro e w2 ⟨E, rfl, hE, hb2⟩
  go_wp2
  go_returns
  exact get_post_bad place l w _ 3 (unhide HP) (by decide) _ hE ((unhide HB1).trans (hb2.mono (unhide HB1).size))
theorem Byt.mid {w : World} {b off n cap : Nat} {l : List Int} (h : Byt w (.slice (some ⟨b, off, none⟩) n cap) l) (p q : Nat) (hq : p + q ≤ n) : Byt w (.slice (if cap = p then some ⟨b, off, none⟩ else some ⟨b, off + p, none⟩) q (cap - p)) ((l.drop p).take q) :=
  (h.drop' p (by omega)).take q (by omega)
set_option maxHeartbeats 4000000 in
theorem get3_read (v : Value) (l : List Int) (place : Int) (w : World) (h : Byt w v l) (hv : (V.vget l).2.2 = 0) (hs : ghd l + (gid l).toNat ≤ l.length) : Calls Tryd.prog 21 #[v, .int .i64 place] w (GetPost place l w) := by
  have hp : pgt place l = rdn place (pbd l) := by unfold pgt; rw [if_neg (by rw [hv]; decide), if_neg (by omega)]
  have hsz : ∀ q, parse (pbd l) = some q → pgt place l = 0 → plist place l = q ∧ psz place l = ((ghd l + (gid l).toNat : Nat) : Int) := fun q hq h0 => by
    unfold plist psz
    rw [if_pos h0, if_pos h0, hq]
    exact ⟨rfl, by omega⟩
  obtain ⟨hv', h1, h2, h3, h4, h5⟩ := vget_is l h.range hv
  have hQ4 := ghd_le l h2 h5
  clear h5
  obtain ⟨b, off, cap, rfl, hc1, hc2⟩ := h.form1 (by omega)
  unfold maxLen at hc2
  have HV := hide h
  have HP := hide hp
  have HSZ := hide hsz
  clear h hp hv hsz
  have hpb : pbd l = (l.drop (ghd l)).take (gid l).toNat := rfl
  obtain ⟨N, hN⟩ : ∃ N : Nat, gid l = N := ⟨(gid l).toNat, by omega⟩
  rw [hN, Int.toNat_natCast] at hs HSZ hpb
  rw [hN] at hv' h3 h4
  generalize ghd l = Q at hQ4 hv' h1 h2 hs HSZ hpb
  generalize pbd l = L at HP HSZ hpb
  have Hv := hide hv'
  generalize hn : l.length = n at hc1 HV h2 hs
  have HPB := hide hpb
  clear hn hv' hN hpb
  by_cases hcQ : cap = Q
  · have e1 : Q = cap := hcQ.symm
    clear hcQ
    subst e1
    have e2 : Q = n := by omega
    subst e2
    obtain rfl : N = 0 := by omega
    have HD : Hid (Byt w (.slice (some ⟨b, off, none⟩) 0 0) L) := by
      show Byt _ _ _
      have := (unhide HV).mid Q 0 (by omega)
      rw [if_pos rfl, Nat.sub_self, ← unhide HPB] at this
      exact this
    go_enter Tryd.func21, Tryd.ntmps21
    go_wp2_with fail
    refine (vget_good _ l _ (unhide HV) 0 Q (unhide Hv)).mono ?_
    rintro e w1 ⟨rfl, hb1⟩
    have HB1 := hide hb1
    clear hb1
    go_wp2_with fail
    refine (read_any _ L place _ ((unhide HD).below (unhide HB1))).mono ?_
    rintro e w2 (⟨q, v2, hpar, hok, rfl, hown, hb2⟩ | ⟨hc, E, rfl, hE, hb2⟩)
    · have HPAR := hide hpar
      have HOK := hide hok
      have HB2 : Hid (Below w.heap.size w w2) := (unhide HB1).trans (hb2.mono (unhide HB1).size)
      have HOWN : Hid (w2.ownsRow w.heap.size 49 4 v2 (min q.length 32) (pcs (q.take 32))) := owns_mono (unhide hown) (unhide HB1).size
      have HRD : Hid (pgt place l = chkP place q) := (unhide HP).trans (rdn_some place L q hpar)
      clear hpar hok hb2 hown
      generalize hk : q.length = k at HOWN
      have HK := hide hk
      clear hk
      rcases Nat.lt_or_ge 32 k with h32 | h32
      · have HC : Hid (pgt place l = 2) := (unhide HRD).trans (chkP_lim place q (unhide HOK) (by rw [unhide HK]; exact h32))
        go_wp2_with fail
        refine (few_bad k _ (by omega)).mono ?_
        rintro e w3 ⟨E, rfl, hE, hb3⟩
        go_wp2
        go_returns
        exact get_post_bad place l w _ 2 (unhide HC) (by decide) _ hE ((unhide HB2).trans (hb3.mono (unhide HB2).size))
      · have HC : Hid (pgt place l = 0) := (unhide HRD).trans (chkP_ok place q (unhide HOK) (by rw [unhide HK]; exact h32))
        have HLS := hide ((unhide HSZ) q (unhide HPAR) (unhide HC))
        go_wp2_with fail
        refine (few_ok k _ (by omega)).mono ?_
        rintro e w3 ⟨rfl, hw⟩
        obtain rfl := hw.symm
        clear hw
        go_wp2
        go_returns
        refine ⟨_, _, by rw [(unhide HLS).2]; exact (by go_num), ?_, by rw [unhide HC]; exact ErrP.nil _, unhide HB2⟩
        show World.ownsRow _ _ _ _ _ _ _
        rw [(unhide HLS).1, unhide HK]
        have := unhide HOWN
        rw [Nat.min_eq_left h32, List.take_of_length_le (by rw [unhide HK]; exact h32)] at this
        exact this
    · have HC : Hid (pgt place l = 1) := (unhide HP).trans hc
      clear hc
      go_wp2
      go_returns
      exact get_post_bad place l w _ 1 (unhide HC) (by decide) _ hE ((unhide HB1).trans (hb2.mono (unhide HB1).size))
  · have HD : Hid (Byt w (.slice (some ⟨b, off + Q, none⟩) N (cap - Q)) L) := by
      show Byt _ _ _
      have := (unhide HV).mid Q N (by omega)
      rw [if_neg hcQ, ← unhide HPB] at this
      exact this
    go_enter Tryd.func21, Tryd.ntmps21
    go_wp2_with fail
    refine (vget_good _ l _ (unhide HV) N Q (unhide Hv)).mono ?_
    rintro e w1 ⟨rfl, hb1⟩
    have HB1 := hide hb1
    clear hb1
    go_wp2_with fail
    refine (read_any _ L place _ ((unhide HD).below (unhide HB1))).mono ?_
    rintro e w2 (⟨q, v2, hpar, hok, rfl, hown, hb2⟩ | ⟨hc, E, rfl, hE, hb2⟩)
    · have HPAR := hide hpar
      have HOK := hide hok
      have HB2 : Hid (Below w.heap.size w w2) := (unhide HB1).trans (hb2.mono (unhide HB1).size)
      have HOWN : Hid (w2.ownsRow w.heap.size 49 4 v2 (min q.length 32) (pcs (q.take 32))) := owns_mono (unhide hown) (unhide HB1).size
      have HRD : Hid (pgt place l = chkP place q) := (unhide HP).trans (rdn_some place L q hpar)
      clear hpar hok hb2 hown
      generalize hk : q.length = k at HOWN
      have HK := hide hk
      clear hk
      rcases Nat.lt_or_ge 32 k with h32 | h32
      · have HC : Hid (pgt place l = 2) := (unhide HRD).trans (chkP_lim place q (unhide HOK) (by rw [unhide HK]; exact h32))
        go_wp2_with fail
        refine (few_bad k _ (by omega)).mono ?_
        rintro e w3 ⟨E, rfl, hE, hb3⟩
        go_wp2
        go_returns
        exact get_post_bad place l w _ 2 (unhide HC) (by decide) _ hE ((unhide HB2).trans (hb3.mono (unhide HB2).size))
      · have HC : Hid (pgt place l = 0) := (unhide HRD).trans (chkP_ok place q (unhide HOK) (by rw [unhide HK]; exact h32))
        have HLS := hide ((unhide HSZ) q (unhide HPAR) (unhide HC))
        go_wp2_with fail
        refine (few_ok k _ (by omega)).mono ?_
        rintro e w3 ⟨rfl, hw⟩
        obtain rfl := hw.symm
        clear hw
        go_wp2
        go_returns
        refine ⟨_, _, by rw [(unhide HLS).2]; exact (by go_num), ?_, by rw [unhide HC]; exact ErrP.nil _, unhide HB2⟩
        show World.ownsRow _ _ _ _ _ _ _
        rw [(unhide HLS).1, unhide HK]
        have := unhide HOWN
        rw [Nat.min_eq_left h32, List.take_of_length_le (by rw [unhide HK]; exact h32)] at this
        exact this
    · have HC : Hid (pgt place l = 1) := (unhide HP).trans hc
      clear hc
      go_wp2
      go_returns
      exact get_post_bad place l w _ 1 (unhide HC) (by decide) _ hE ((unhide HB1).trans (hb2.mono (unhide HB1).size))
theorem get3_any (v : Value) (l : List Int) (place : Int) (w : World) (h : Byt w v l) : Calls Tryd.prog 21 #[v, .int .i64 place] w (GetPost place l w) := by
  by_cases hv : (V.vget l).2.2 = 0
  · rcases Nat.lt_or_ge l.length (ghd l + (gid l).toNat) with hs | hs
    · exact get3_short v l place w h hv hs
    · exact get3_read v l place w h hv hs
  · exact get3_bad1 v l place w h hv
end Go.Proofs.YtpfpollejhdbgaaDoor
/- Proved here: what dovecotelaw0.PropsWeight and dovecotelaw3.heavy say of properties that are let pass. Helper contracts. -/
namespace Go.Proofs.YtpfpollejhdbgaaDoor
open Go.RowKit
set_option maxRecDepth 100000

def WeightPost (l : List Pr) (w : World) (e : Ending) (w' : World) : Prop := ∃ r : Int, e = .returned (.int .i64 r) ∧ Hid (∀ k, k < l.length → k < 1000 → ((at0 l k).2.2.1.size : Int) ≤ r ∧ ((at0 l k).2.2.2.size : Int) ≤ r) ∧ ∃ q, w' = w.drewN q
set_option maxHeartbeats 1000000 in
theorem weight_core (b off cap : Nat) (l : List Pr) (len : Nat) (w : World) (hlen : l.length = len) (hh : Held l) (hl : PrAt w b off l) :
    Calls Tryd.prog 10 #[.slice (some ⟨b, off, none⟩) len cap] w (WeightPost l w) := by
  have hmx : len ≤ 140737488351232 := hlen ▸ hh.1
  have HL := hide hl
  have HLEN := hide hlen
  have HH := hide hh
  clear hl hlen hh
  go_enter Tryd.func10, Tryd.ntmps10
  go_wp2
  go_loopw [3, 4] (fun n i wr => ∃ k N q : Nat, k ≤ len ∧ k ≤ 1000 ∧ i = .int .i64 k ∧ n = .int .i64 N ∧ N ≤ len + k * 281474976702464 ∧ wr = w.drewN q ∧ Hid (∀ j, j < k → ((at0 l j).2.2.1.size) ≤ N ∧ ((at0 l j).2.2.2.size) ≤ N)) (fun _ i _ => 1000 - (intOf i).toNat)
  case atStart => exact ⟨0, len, 0, Nat.zero_le _, by omega, rfl, rfl, by omega, rfl, fun j hj => absurd hj (Nat.not_lt_zero j)⟩
  case round =>
    obtain ⟨k, N, q, hk, hk1, rfl, rfl, hN, rfl, HS⟩ := hrel
    by_cases hlt : k < len ∧ k < 1000
    · obtain ⟨hlt, hlt1⟩ := hlt
      obtain ⟨-, -, h2, h3⟩ := (unhide HL) k (by rw [unhide HLEN]; exact hlt)
      have hsz := (unhide HH).2 k (by rw [unhide HLEN]; exact hlt)
      have HP := hide (rfl : at0 l k = at0 l k)
      generalize hp : at0 l k = p at h2 h3 hsz
      obtain ⟨id, n, s, t⟩ := p
      have HE := hide hp
      simp only at h2 h3 hsz
      obtain ⟨hs1, hs2⟩ := hsz
      clear hp HP
      go_wp2
      go_quiet (fail)
      go_wp2
      go_roundw
      case rel => exact ⟨k + 1, N + s.size + t.size, _, by omega, by omega, by go_num, by go_num, by omega, rfl, fun j hj => by
        rcases Nat.lt_succ_iff_lt_or_eq.1 hj with h | h
        · have := (unhide HS) j h; omega
        · rw [h, unhide HE]; simp only; omega⟩
      case measure => simp [intOf]; omega
    · have HF : Hid (∀ j, j < l.length → j < 1000 → ((at0 l j).2.2.1.size : Int) ≤ N ∧ ((at0 l j).2.2.2.size : Int) ≤ N) := fun j hj hj1 => by
        rw [unhide HLEN] at hj
        have := (unhide HS) j (by omega)
        omega
      by_cases hlt1 : k < len
      · obtain rfl : k = 1000 := by omega
        go_wp2
        go_ret
        exact ⟨_, rfl, HF, _, rfl⟩
      · go_wp2
        go_ret
        exact ⟨_, rfl, HF, _, rfl⟩
theorem weight_nil (ao : Option Addr) (cap : Nat) (w : World) : Calls Tryd.prog 10 #[.slice ao 0 cap] w (WeightPost [] w) := by
  go_enter Tryd.func10, Tryd.ntmps10
  go_wp2
  refine wp_loop_rounds 1 ?_
  rw [rounds_succ]
  go_wp2
  go_ret
  exact ⟨_, rfl, fun k hk => absurd hk (Nat.not_lt_zero k), 0, rfl⟩
theorem weight_any (v : Value) (l : List Pr) (w : World) (h : Prp w v l) (hh : Held l) : Calls Tryd.prog 10 #[v] w (WeightPost l w) := by
  obtain ⟨ao, cap, rfl, hc⟩ := h
  rcases hc with rfl | ⟨b, off, rfl, hc⟩
  · exact weight_nil ao cap w
  · exact weight_core b off cap l _ w rfl hh hc
/-- what is let pass -/
def Light (l : List Pr) (n : Nat) : Prop := l.length ≤ 200 ∧ n ≤ 5000 ∧ ∀ k, k < l.length → (at0 l k).2.2.1.size ≤ 70000 ∧ (at0 l k).2.2.2.size ≤ 70000
theorem Light.small {l : List Pr} {n : Nat} (h : Light l n) : Small l := fun k hk => by have := h.2.2 k hk; omega
def HeavyPost (l : List Pr) (n : Nat) (w : World) (e : Ending) (w' : World) : Prop := ∃ b : Bool, e = .returned (.bool b) ∧ Hid (b = false → Light l n) ∧ Below w.heap.size w w'
theorem heavy_any (vl : Value) (l : List Pr) (p : Int) (ao : Option Addr) (n cap : Nat) (w : World) (h : Prp w vl l) (hh : Held l) (hn : n ≤ 140737488351232) :
    Calls Tryd.prog 9 #[.agg #[vl, .int .i64 p, .slice ao n cap]] w (HeavyPost l n w) := by
  have hmx : l.length ≤ 140737488351232 := hh.1
  have HW := hide (fun W (hb : Below w.heap.size w W) => weight_any vl l W (h.below hb) hh)
  obtain ⟨lo, lc, hv⟩ := h.form
  clear h hh
  generalize hle : l.length = len at hv hmx
  have HLE := hide hle
  clear hle
  subst hv
  go_enter Tryd.func9, Tryd.ntmps9
  go_wp2_with fail
  refine ((unhide HW) _ ((Below.refl _ _).alloc (Nat.le_refl _) _)).mono ?_
  rintro e w1 ⟨r, rfl, HR, q, hw1⟩
  obtain rfl := hw1
  have HB : Hid (Below w.heap.size w ((w.alloc (.cells #[.slice lo len lc, .int .i64 p, .slice ao n cap] 26)).drewN q)) := below_drewN ((Below.refl _ _).alloc (Nat.le_refl _) _) q
  by_cases h1 : 70000 < r
  · go_wp2
    go_ret
    exact ⟨_, rfl, fun h => (by cases h), unhide HB⟩
  by_cases h2 : 200 < len
  · go_wp2
    go_ret
    exact ⟨_, rfl, fun h => (by cases h), unhide HB⟩
  by_cases h3 : 5000 < n
  · go_wp2
    go_ret
    exact ⟨_, rfl, fun h => (by exfalso; revert h; simp; omega), unhide HB⟩
  have HLT : Hid (Light l n) := ⟨by rw [unhide HLE]; omega, by omega, fun k hk => by
    have := (unhide HR) k hk (by rw [unhide HLE] at hk; omega)
    omega⟩
  go_wp2
  go_ret
  exact ⟨_, rfl, fun _ => unhide HLT, unhide HB⟩
end Go.Proofs.YtpfpollejhdbgaaDoor
/- Proved here: what dovecoteref3.kind tells of any ID. Helper contracts. -/
namespace Go.Proofs.YtpfpollejhdbgaaDoor
open Go.RowKit
set_option maxRecDepth 100000

set_option maxHeartbeats 40000000 in
theorem kind_any (id : Int) (w : World) : Calls Tryd.prog 39 #[.int .i64 id] w fun e w' => e = .returned (.int .i64 (kd id)) ∧ w' = w := by
  refine id_cases (P := fun id => Calls Tryd.prog 39 #[.int .i64 id] w fun e w' => e = .returned (.int .i64 (kd id)) ∧ w' = w) id ?_ ?_ ?_ ?_ ?_ ?_ ?_ ?_ ?_ ?_ ?_ ?_ ?_ ?_ ?_ ?_ ?_ ?_ ?_ ?_ ?_ ?_ ?_ ?_ ?_ ?_ ?_ ?none
  case none =>
    intro n1 n2 n3 n8 n9 n11 n17 n18 n19 n21 n22 n23 n24 n25 n26 n28 n31 n33 n34 n35 n36 n37 n38 n39 n40 n41 n42
    rw [kd_none id n1 n2 n3 n8 n9 n11 n17 n18 n19 n21 n22 n23 n24 n25 n26 n28 n31 n33 n34 n35 n36 n37 n38 n39 n40 n41 n42]
    have b1 : (id == 1) = false := beq_eq_false_iff_ne.2 n1
    have b2 : (id == 2) = false := beq_eq_false_iff_ne.2 n2
    have b3 : (id == 3) = false := beq_eq_false_iff_ne.2 n3
    have b8 : (id == 8) = false := beq_eq_false_iff_ne.2 n8
    have b9 : (id == 9) = false := beq_eq_false_iff_ne.2 n9
    have b11 : (id == 11) = false := beq_eq_false_iff_ne.2 n11
    have b17 : (id == 17) = false := beq_eq_false_iff_ne.2 n17
    have b18 : (id == 18) = false := beq_eq_false_iff_ne.2 n18
    have b19 : (id == 19) = false := beq_eq_false_iff_ne.2 n19
    have b21 : (id == 21) = false := beq_eq_false_iff_ne.2 n21
    have b22 : (id == 22) = false := beq_eq_false_iff_ne.2 n22
    have b23 : (id == 23) = false := beq_eq_false_iff_ne.2 n23
    have b24 : (id == 24) = false := beq_eq_false_iff_ne.2 n24
    have b25 : (id == 25) = false := beq_eq_false_iff_ne.2 n25
    have b26 : (id == 26) = false := beq_eq_false_iff_ne.2 n26
    have b28 : (id == 28) = false := beq_eq_false_iff_ne.2 n28
    have b31 : (id == 31) = false := beq_eq_false_iff_ne.2 n31
    have b33 : (id == 33) = false := beq_eq_false_iff_ne.2 n33
    have b34 : (id == 34) = false := beq_eq_false_iff_ne.2 n34
    have b35 : (id == 35) = false := beq_eq_false_iff_ne.2 n35
    have b36 : (id == 36) = false := beq_eq_false_iff_ne.2 n36
    have b37 : (id == 37) = false := beq_eq_false_iff_ne.2 n37
    have b38 : (id == 38) = false := beq_eq_false_iff_ne.2 n38
    have b39 : (id == 39) = false := beq_eq_false_iff_ne.2 n39
    have b40 : (id == 40) = false := beq_eq_false_iff_ne.2 n40
    have b41 : (id == 41) = false := beq_eq_false_iff_ne.2 n41
    have b42 : (id == 42) = false := beq_eq_false_iff_ne.2 n42
    clear n1 n2 n3 n8 n9 n11 n17 n18 n19 n21 n22 n23 n24 n25 n26 n28 n31 n33 n34 n35 n36 n37 n38 n39 n40 n41 n42
    go_enter Tryd.func39, Tryd.ntmps39
    go_wp2
    go_ret
    exact ⟨rfl, rfl⟩
  all_goals
    go_enter Tryd.func39, Tryd.ntmps39
    go_wp2
    go_ret
    exact ⟨by kernel_rfl, rfl⟩
end Go.Proofs.YtpfpollejhdbgaaDoor
/- Proved here: dovecoteref3.May tells whether a property may be (may). Helper contracts. -/
namespace Go.Proofs.YtpfpollejhdbgaaDoor
open Go.RowKit
set_option maxRecDepth 100000

theorem kind_use (id k : Int) (h : kd id = k) (w : World) : Calls Tryd.prog 39 #[.int .i64 id] w fun e w' => e = .returned (.int .i64 k) ∧ w' = w := by
  subst h
  exact kind_any id w
def MayPost (b : Bool) (w : World) (e : Ending) (w' : World) : Prop := e = .returned (.bool b) ∧ Below w.heap.size w w'
/-- a number's arms -/
def numB (hi lo n : Int) (s t : ByteArray) : Bool := decide (lo ≤ n) && decide (n ≤ hi) && (emp s && emp t)
theorem numB_lo (hi lo n : Int) (s t : ByteArray) (h : n < lo) : numB hi lo n s t = false := by unfold numB; rw [decide_eq_false (by omega : ¬ lo ≤ n)]; rfl
theorem numB_hi (hi lo n : Int) (s t : ByteArray) (h : hi < n) : numB hi lo n s t = false := by unfold numB; rw [decide_eq_false (by omega : ¬ n ≤ hi), Bool.and_false]; rfl
theorem numB_s (hi lo n : Int) (s t : ByteArray) (h : s.toList.isEmpty = false) : numB hi lo n s t = false := by unfold numB emp; rw [h, Bool.false_and, Bool.and_false]
theorem numB_t (hi lo n : Int) (s t : ByteArray) (h0 : lo ≤ n) (h1 : n ≤ hi) (h : s.toList.isEmpty = true) : numB hi lo n s t = t.toList.isEmpty := by unfold numB emp; rw [h, decide_eq_true h0, decide_eq_true h1]; rfl
theorem may_num (id n k : Int) (s t : ByteArray) (hk : kd id = k) (h : k = 1 ∨ k = 2 ∨ k = 4 ∨ k = 5) : may (id, n, s, t) = numB (mx id) (lst id) n s t := by
  unfold may fit txo numB
  rcases h with rfl | rfl | rfl | rfl <;> simp [hk]
theorem lst_zero (id : Int) (h : kd id = 6 ∨ kd id = 7 ∨ kd id = 8) : lst id = 0 := by
  unfold lst
  rw [if_neg]
  rintro (rfl | rfl | rfl | rfl) <;> revert h <;> decide
set_option maxHeartbeats 1000000 in
theorem may_1 (id n : Int) (s t : ByteArray) (w : World) (hk : kd id = 1) : Calls Tryd.prog 24 #[.agg #[.int .i64 id, .int .i64 n, .string s, .string t]] w (MayPost (numB 1 0 n s t) w) := by
  unfold MayPost
  have HK := hide hk
  clear hk
  by_cases h1 : n < 0
  · skip
    have hm : Hid (numB 1 0 n s t = false) := numB_lo _ _ _ _ _ h1
    go_enter Tryd.func24, Tryd.ntmps24
    go_wp2_with (go_at_call 39; refine (kind_use _ 1 (unhide HK) _).mono ?_; rintro e w' ⟨rfl, rfl⟩)
    go_ret
    exact ⟨ret_bool (unhide hm).symm, by go_grown⟩
  have h1' : 0 ≤ n := by omega
  clear h1
  by_cases h2 : 1 < n
  · skip
    have hm : Hid (numB 1 0 n s t = false) := numB_hi _ _ _ _ _ h2
    go_enter Tryd.func24, Tryd.ntmps24
    go_wp2_with (go_at_call 39; refine (kind_use _ 1 (unhide HK) _).mono ?_; rintro e w' ⟨rfl, rfl⟩)
    go_ret
    exact ⟨ret_bool (unhide hm).symm, by go_grown⟩
  have h2' : n ≤ 1 := by omega
  clear h2
  by_cases hs : s.toList.isEmpty = true
  · skip
    have hm : Hid (numB 1 0 n s t = t.toList.isEmpty) := numB_t _ _ _ _ _ h1' h2' hs
    go_enter Tryd.func24, Tryd.ntmps24
    go_wp2_with (go_at_call 39; refine (kind_use _ 1 (unhide HK) _).mono ?_; rintro e w' ⟨rfl, rfl⟩)
    go_ret
    exact ⟨ret_bool (unhide hm).symm, by go_grown⟩
  · have hs' : s.toList.isEmpty = false := by simpa using hs
    clear hs
    have hm : Hid (numB 1 0 n s t = false) := numB_s _ _ _ _ _ hs'
    go_enter Tryd.func24, Tryd.ntmps24
    go_wp2_with (go_at_call 39; refine (kind_use _ 1 (unhide HK) _).mono ?_; rintro e w' ⟨rfl, rfl⟩)
    go_ret
    exact ⟨ret_bool (unhide hm).symm, by go_grown⟩
set_option maxHeartbeats 1000000 in
theorem may_5 (id n : Int) (s t : ByteArray) (w : World) (hk : kd id = 5) : Calls Tryd.prog 24 #[.agg #[.int .i64 id, .int .i64 n, .string s, .string t]] w (MayPost (numB 268435455 1 n s t) w) := by
  unfold MayPost
  have HK := hide hk
  clear hk
  by_cases h1 : n < 1
  · skip
    have hm : Hid (numB 268435455 1 n s t = false) := numB_lo _ _ _ _ _ h1
    go_enter Tryd.func24, Tryd.ntmps24
    go_wp2_with (go_at_call 39; refine (kind_use _ 5 (unhide HK) _).mono ?_; rintro e w' ⟨rfl, rfl⟩)
    go_ret
    exact ⟨ret_bool (unhide hm).symm, by go_grown⟩
  have h1' : 1 ≤ n := by omega
  clear h1
  by_cases h2 : 268435455 < n
  · skip
    have hm : Hid (numB 268435455 1 n s t = false) := numB_hi _ _ _ _ _ h2
    go_enter Tryd.func24, Tryd.ntmps24
    go_wp2_with (go_at_call 39; refine (kind_use _ 5 (unhide HK) _).mono ?_; rintro e w' ⟨rfl, rfl⟩)
    go_ret
    exact ⟨ret_bool (unhide hm).symm, by go_grown⟩
  have h2' : n ≤ 268435455 := by omega
  clear h2
  by_cases hs : s.toList.isEmpty = true
  · skip
    have hm : Hid (numB 268435455 1 n s t = t.toList.isEmpty) := numB_t _ _ _ _ _ h1' h2' hs
    go_enter Tryd.func24, Tryd.ntmps24
    go_wp2_with (go_at_call 39; refine (kind_use _ 5 (unhide HK) _).mono ?_; rintro e w' ⟨rfl, rfl⟩)
    go_ret
    exact ⟨ret_bool (unhide hm).symm, by go_grown⟩
  · have hs' : s.toList.isEmpty = false := by simpa using hs
    clear hs
    have hm : Hid (numB 268435455 1 n s t = false) := numB_s _ _ _ _ _ hs'
    go_enter Tryd.func24, Tryd.ntmps24
    go_wp2_with (go_at_call 39; refine (kind_use _ 5 (unhide HK) _).mono ?_; rintro e w' ⟨rfl, rfl⟩)
    go_ret
    exact ⟨ret_bool (unhide hm).symm, by go_grown⟩
set_option maxHeartbeats 1000000 in
theorem may_33 (n : Int) (s t : ByteArray) (w : World) (hk : kd 33 = 2) : Calls Tryd.prog 24 #[.agg #[.int .i64 33, .int .i64 n, .string s, .string t]] w (MayPost (numB 65535 1 n s t) w) := by
  unfold MayPost
  have HK := hide hk
  clear hk
  by_cases h1 : n < 1
  · skip
    have hm : Hid (numB 65535 1 n s t = false) := numB_lo _ _ _ _ _ h1
    go_enter Tryd.func24, Tryd.ntmps24
    go_wp2_with (go_at_call 39; refine (kind_use _ 2 (unhide HK) _).mono ?_; rintro e w' ⟨rfl, rfl⟩)
    go_ret
    exact ⟨ret_bool (unhide hm).symm, by go_grown⟩
  have h1' : 1 ≤ n := by omega
  clear h1
  by_cases h2 : 65535 < n
  · skip
    have hm : Hid (numB 65535 1 n s t = false) := numB_hi _ _ _ _ _ h2
    go_enter Tryd.func24, Tryd.ntmps24
    go_wp2_with (go_at_call 39; refine (kind_use _ 2 (unhide HK) _).mono ?_; rintro e w' ⟨rfl, rfl⟩)
    go_ret
    exact ⟨ret_bool (unhide hm).symm, by go_grown⟩
  have h2' : n ≤ 65535 := by omega
  clear h2
  by_cases hs : s.toList.isEmpty = true
  · skip
    have hm : Hid (numB 65535 1 n s t = t.toList.isEmpty) := numB_t _ _ _ _ _ h1' h2' hs
    go_enter Tryd.func24, Tryd.ntmps24
    go_wp2_with (go_at_call 39; refine (kind_use _ 2 (unhide HK) _).mono ?_; rintro e w' ⟨rfl, rfl⟩)
    go_ret
    exact ⟨ret_bool (unhide hm).symm, by go_grown⟩
  · have hs' : s.toList.isEmpty = false := by simpa using hs
    clear hs
    have hm : Hid (numB 65535 1 n s t = false) := numB_s _ _ _ _ _ hs'
    go_enter Tryd.func24, Tryd.ntmps24
    go_wp2_with (go_at_call 39; refine (kind_use _ 2 (unhide HK) _).mono ?_; rintro e w' ⟨rfl, rfl⟩)
    go_ret
    exact ⟨ret_bool (unhide hm).symm, by go_grown⟩
set_option maxHeartbeats 1000000 in
theorem may_35 (n : Int) (s t : ByteArray) (w : World) (hk : kd 35 = 2) : Calls Tryd.prog 24 #[.agg #[.int .i64 35, .int .i64 n, .string s, .string t]] w (MayPost (numB 65535 1 n s t) w) := by
  unfold MayPost
  have HK := hide hk
  clear hk
  by_cases h1 : n < 1
  · skip
    have hm : Hid (numB 65535 1 n s t = false) := numB_lo _ _ _ _ _ h1
    go_enter Tryd.func24, Tryd.ntmps24
    go_wp2_with (go_at_call 39; refine (kind_use _ 2 (unhide HK) _).mono ?_; rintro e w' ⟨rfl, rfl⟩)
    go_ret
    exact ⟨ret_bool (unhide hm).symm, by go_grown⟩
  have h1' : 1 ≤ n := by omega
  clear h1
  by_cases h2 : 65535 < n
  · skip
    have hm : Hid (numB 65535 1 n s t = false) := numB_hi _ _ _ _ _ h2
    go_enter Tryd.func24, Tryd.ntmps24
    go_wp2_with (go_at_call 39; refine (kind_use _ 2 (unhide HK) _).mono ?_; rintro e w' ⟨rfl, rfl⟩)
    go_ret
    exact ⟨ret_bool (unhide hm).symm, by go_grown⟩
  have h2' : n ≤ 65535 := by omega
  clear h2
  by_cases hs : s.toList.isEmpty = true
  · skip
    have hm : Hid (numB 65535 1 n s t = t.toList.isEmpty) := numB_t _ _ _ _ _ h1' h2' hs
    go_enter Tryd.func24, Tryd.ntmps24
    go_wp2_with (go_at_call 39; refine (kind_use _ 2 (unhide HK) _).mono ?_; rintro e w' ⟨rfl, rfl⟩)
    go_ret
    exact ⟨ret_bool (unhide hm).symm, by go_grown⟩
  · have hs' : s.toList.isEmpty = false := by simpa using hs
    clear hs
    have hm : Hid (numB 65535 1 n s t = false) := numB_s _ _ _ _ _ hs'
    go_enter Tryd.func24, Tryd.ntmps24
    go_wp2_with (go_at_call 39; refine (kind_use _ 2 (unhide HK) _).mono ?_; rintro e w' ⟨rfl, rfl⟩)
    go_ret
    exact ⟨ret_bool (unhide hm).symm, by go_grown⟩
set_option maxHeartbeats 1000000 in
theorem may_2 (id n : Int) (s t : ByteArray) (w : World) (hk : kd id = 2) (n33 : id ≠ 33) (n35 : id ≠ 35) : Calls Tryd.prog 24 #[.agg #[.int .i64 id, .int .i64 n, .string s, .string t]] w (MayPost (numB 65535 0 n s t) w) := by
  unfold MayPost
  have HK := hide hk
  clear hk
  have b33 : (id == 33) = false := beq_eq_false_iff_ne.2 n33
  have b35 : (id == 35) = false := beq_eq_false_iff_ne.2 n35
  clear n33 n35
  by_cases h1 : n < 0
  · skip
    have hm : Hid (numB 65535 0 n s t = false) := numB_lo _ _ _ _ _ h1
    go_enter Tryd.func24, Tryd.ntmps24
    go_wp2_with (go_at_call 39; refine (kind_use _ 2 (unhide HK) _).mono ?_; rintro e w' ⟨rfl, rfl⟩)
    go_ret
    exact ⟨ret_bool (unhide hm).symm, by go_grown⟩
  have h1' : 0 ≤ n := by omega
  clear h1
  by_cases h2 : 65535 < n
  · skip
    have hm : Hid (numB 65535 0 n s t = false) := numB_hi _ _ _ _ _ h2
    go_enter Tryd.func24, Tryd.ntmps24
    go_wp2_with (go_at_call 39; refine (kind_use _ 2 (unhide HK) _).mono ?_; rintro e w' ⟨rfl, rfl⟩)
    go_ret
    exact ⟨ret_bool (unhide hm).symm, by go_grown⟩
  have h2' : n ≤ 65535 := by omega
  clear h2
  by_cases hs : s.toList.isEmpty = true
  · skip
    have hm : Hid (numB 65535 0 n s t = t.toList.isEmpty) := numB_t _ _ _ _ _ h1' h2' hs
    go_enter Tryd.func24, Tryd.ntmps24
    go_wp2_with (go_at_call 39; refine (kind_use _ 2 (unhide HK) _).mono ?_; rintro e w' ⟨rfl, rfl⟩)
    go_ret
    exact ⟨ret_bool (unhide hm).symm, by go_grown⟩
  · have hs' : s.toList.isEmpty = false := by simpa using hs
    clear hs
    have hm : Hid (numB 65535 0 n s t = false) := numB_s _ _ _ _ _ hs'
    go_enter Tryd.func24, Tryd.ntmps24
    go_wp2_with (go_at_call 39; refine (kind_use _ 2 (unhide HK) _).mono ?_; rintro e w' ⟨rfl, rfl⟩)
    go_ret
    exact ⟨ret_bool (unhide hm).symm, by go_grown⟩
set_option maxHeartbeats 1000000 in
theorem may_39 (n : Int) (s t : ByteArray) (w : World) (hk : kd 39 = 4) : Calls Tryd.prog 24 #[.agg #[.int .i64 39, .int .i64 n, .string s, .string t]] w (MayPost (numB 4294967295 1 n s t) w) := by
  unfold MayPost
  have HK := hide hk
  clear hk
  by_cases h1 : n < 1
  · skip
    have hm : Hid (numB 4294967295 1 n s t = false) := numB_lo _ _ _ _ _ h1
    go_enter Tryd.func24, Tryd.ntmps24
    go_wp2_with (go_at_call 39; refine (kind_use _ 4 (unhide HK) _).mono ?_; rintro e w' ⟨rfl, rfl⟩)
    go_ret
    exact ⟨ret_bool (unhide hm).symm, by go_grown⟩
  have h1' : 1 ≤ n := by omega
  clear h1
  by_cases h2 : 4294967295 < n
  · skip
    have hm : Hid (numB 4294967295 1 n s t = false) := numB_hi _ _ _ _ _ h2
    go_enter Tryd.func24, Tryd.ntmps24
    go_wp2_with (go_at_call 39; refine (kind_use _ 4 (unhide HK) _).mono ?_; rintro e w' ⟨rfl, rfl⟩)
    go_ret
    exact ⟨ret_bool (unhide hm).symm, by go_grown⟩
  have h2' : n ≤ 4294967295 := by omega
  clear h2
  by_cases hs : s.toList.isEmpty = true
  · skip
    have hm : Hid (numB 4294967295 1 n s t = t.toList.isEmpty) := numB_t _ _ _ _ _ h1' h2' hs
    go_enter Tryd.func24, Tryd.ntmps24
    go_wp2_with (go_at_call 39; refine (kind_use _ 4 (unhide HK) _).mono ?_; rintro e w' ⟨rfl, rfl⟩)
    go_ret
    exact ⟨ret_bool (unhide hm).symm, by go_grown⟩
  · have hs' : s.toList.isEmpty = false := by simpa using hs
    clear hs
    have hm : Hid (numB 4294967295 1 n s t = false) := numB_s _ _ _ _ _ hs'
    go_enter Tryd.func24, Tryd.ntmps24
    go_wp2_with (go_at_call 39; refine (kind_use _ 4 (unhide HK) _).mono ?_; rintro e w' ⟨rfl, rfl⟩)
    go_ret
    exact ⟨ret_bool (unhide hm).symm, by go_grown⟩
set_option maxHeartbeats 1000000 in
theorem may_4 (id n : Int) (s t : ByteArray) (w : World) (hk : kd id = 4) (n39 : id ≠ 39) : Calls Tryd.prog 24 #[.agg #[.int .i64 id, .int .i64 n, .string s, .string t]] w (MayPost (numB 4294967295 0 n s t) w) := by
  unfold MayPost
  have HK := hide hk
  clear hk
  have b39 : (id == 39) = false := beq_eq_false_iff_ne.2 n39
  clear n39
  by_cases h1 : n < 0
  · skip
    have hm : Hid (numB 4294967295 0 n s t = false) := numB_lo _ _ _ _ _ h1
    go_enter Tryd.func24, Tryd.ntmps24
    go_wp2_with (go_at_call 39; refine (kind_use _ 4 (unhide HK) _).mono ?_; rintro e w' ⟨rfl, rfl⟩)
    go_ret
    exact ⟨ret_bool (unhide hm).symm, by go_grown⟩
  have h1' : 0 ≤ n := by omega
  clear h1
  by_cases h2 : 4294967295 < n
  · skip
    have hm : Hid (numB 4294967295 0 n s t = false) := numB_hi _ _ _ _ _ h2
    go_enter Tryd.func24, Tryd.ntmps24
    go_wp2_with (go_at_call 39; refine (kind_use _ 4 (unhide HK) _).mono ?_; rintro e w' ⟨rfl, rfl⟩)
    go_ret
    exact ⟨ret_bool (unhide hm).symm, by go_grown⟩
  have h2' : n ≤ 4294967295 := by omega
  clear h2
  by_cases hs : s.toList.isEmpty = true
  · skip
    have hm : Hid (numB 4294967295 0 n s t = t.toList.isEmpty) := numB_t _ _ _ _ _ h1' h2' hs
    go_enter Tryd.func24, Tryd.ntmps24
    go_wp2_with (go_at_call 39; refine (kind_use _ 4 (unhide HK) _).mono ?_; rintro e w' ⟨rfl, rfl⟩)
    go_ret
    exact ⟨ret_bool (unhide hm).symm, by go_grown⟩
  · have hs' : s.toList.isEmpty = false := by simpa using hs
    clear hs
    have hm : Hid (numB 4294967295 0 n s t = false) := numB_s _ _ _ _ _ hs'
    go_enter Tryd.func24, Tryd.ntmps24
    go_wp2_with (go_at_call 39; refine (kind_use _ 4 (unhide HK) _).mono ?_; rintro e w' ⟨rfl, rfl⟩)
    go_ret
    exact ⟨ret_bool (unhide hm).symm, by go_grown⟩
theorem may_text (id n : Int) (s t : ByteArray) (hk : kd id = 6) : may (id, n, s, t) = (decide (n = 0) && (emp t && decide (chk (sb s) = 0))) := by
  have hl := lst_zero id (.inl hk)
  have hx : mx id = 0 := by unfold mx; simp [hk]
  have hn : (decide (0 ≤ n) && decide (n ≤ 0)) = decide (n = 0) := by rw [← Bool.decide_and, decide_eq_decide]; constructor <;> intro h <;> omega
  unfold may fit txo
  simp only [hl, hx, hk, hn]
  cases decide (n = 0) <;> cases emp t <;> simp
theorem may_bin (id n : Int) (s t : ByteArray) (hk : kd id = 7) : may (id, n, s, t) = (decide (n = 0) && (emp t && decide (s.size ≤ 65535))) := by
  have hl := lst_zero id (.inr (.inl hk))
  have hx : mx id = 0 := by unfold mx; simp [hk]
  have hn : (decide (0 ≤ n) && decide (n ≤ 0)) = decide (n = 0) := by rw [← Bool.decide_and, decide_eq_decide]; constructor <;> intro h <;> omega
  unfold may fit txo
  simp only [hl, hx, hk, hn]
  cases decide (n = 0) <;> cases emp t <;> simp
theorem may_pair (id n : Int) (s t : ByteArray) (hk : kd id = 8) : may (id, n, s, t) = (decide (n = 0) && (decide (chk (sb s) = 0) && decide (chk (sb t) = 0))) := by
  have hl := lst_zero id (.inr (.inr hk))
  have hx : mx id = 0 := by unfold mx; simp [hk]
  have hn : (decide (0 ≤ n) && decide (n ≤ 0)) = decide (n = 0) := by rw [← Bool.decide_and, decide_eq_decide]; constructor <;> intro h <;> omega
  unfold may fit txo
  simp only [hl, hx, hk, hn]
  cases decide (n = 0) <;> simp
theorem rcheck_use (s : ByteArray) (c : Int) (h : chk (sb s) = c) (w : World) (hs : s.size ≤ 4611686018427387904) : Calls Tryd.prog 40 #[.string s] w fun e w' => e = .returned (.int .i64 c) ∧ Below w.heap.size w w' := by
  subst h
  exact rcheck_any s w hs
set_option maxHeartbeats 1000000 in
theorem mayw_6_n (id n : Int) (s t : ByteArray) (w : World) (hk : kd id = 6) (h0 : n ≠ 0) : Calls Tryd.prog 24 #[.agg #[.int .i64 id, .int .i64 n, .string s, .string t]] w (MayPost (may (id, n, s, t)) w) := by
  unfold MayPost
  have HK := hide hk
  have hm : Hid (may (id, n, s, t) = false) := by show may _ = false; rw [may_text id n s t hk]; simp [h0]
  clear hk
  have b0 : (n == 0) = false := beq_eq_false_iff_ne.2 h0
  go_enter Tryd.func24, Tryd.ntmps24
  go_wp2_with (go_at_call 39; refine (kind_use _ 6 (unhide HK) _).mono ?_; rintro e w' ⟨rfl, rfl⟩)
  go_ret
  exact ⟨ret_bool (unhide hm).symm, by go_grown⟩
set_option maxHeartbeats 1000000 in
theorem mayw_7_n (id n : Int) (s t : ByteArray) (w : World) (hk : kd id = 7) (h0 : n ≠ 0) : Calls Tryd.prog 24 #[.agg #[.int .i64 id, .int .i64 n, .string s, .string t]] w (MayPost (may (id, n, s, t)) w) := by
  unfold MayPost
  have HK := hide hk
  have hm : Hid (may (id, n, s, t) = false) := by show may _ = false; rw [may_bin id n s t hk]; simp [h0]
  clear hk
  have b0 : (n == 0) = false := beq_eq_false_iff_ne.2 h0
  go_enter Tryd.func24, Tryd.ntmps24
  go_wp2_with (go_at_call 39; refine (kind_use _ 7 (unhide HK) _).mono ?_; rintro e w' ⟨rfl, rfl⟩)
  go_ret
  exact ⟨ret_bool (unhide hm).symm, by go_grown⟩
set_option maxHeartbeats 1000000 in
theorem mayw_8_n (id n : Int) (s t : ByteArray) (w : World) (hk : kd id = 8) (h0 : n ≠ 0) : Calls Tryd.prog 24 #[.agg #[.int .i64 id, .int .i64 n, .string s, .string t]] w (MayPost (may (id, n, s, t)) w) := by
  unfold MayPost
  have HK := hide hk
  have hm : Hid (may (id, n, s, t) = false) := by show may _ = false; rw [may_pair id n s t hk]; simp [h0]
  clear hk
  have b0 : (n == 0) = false := beq_eq_false_iff_ne.2 h0
  go_enter Tryd.func24, Tryd.ntmps24
  go_wp2_with (go_at_call 39; refine (kind_use _ 8 (unhide HK) _).mono ?_; rintro e w' ⟨rfl, rfl⟩)
  go_ret
  exact ⟨ret_bool (unhide hm).symm, by go_grown⟩
set_option maxHeartbeats 1000000 in
theorem mayw_6_t (id n : Int) (s t : ByteArray) (w : World) (hk : kd id = 6) (h0 : n = 0) (ht : t.toList.isEmpty = false) : Calls Tryd.prog 24 #[.agg #[.int .i64 id, .int .i64 n, .string s, .string t]] w (MayPost (may (id, n, s, t)) w) := by
  unfold MayPost
  have HK := hide hk
  have hm : Hid (may (id, n, s, t) = false) := by show may _ = false; rw [may_text id n s t hk]; unfold emp; rw [ht, Bool.false_and, Bool.and_false]
  clear hk
  subst h0
  go_enter Tryd.func24, Tryd.ntmps24
  go_wp2_with (go_at_call 39; refine (kind_use _ 6 (unhide HK) _).mono ?_; rintro e w' ⟨rfl, rfl⟩)
  go_ret
  exact ⟨ret_bool (unhide hm).symm, by go_grown⟩
set_option maxHeartbeats 1000000 in
theorem mayw_7_t (id n : Int) (s t : ByteArray) (w : World) (hk : kd id = 7) (h0 : n = 0) (ht : t.toList.isEmpty = false) : Calls Tryd.prog 24 #[.agg #[.int .i64 id, .int .i64 n, .string s, .string t]] w (MayPost (may (id, n, s, t)) w) := by
  unfold MayPost
  have HK := hide hk
  have hm : Hid (may (id, n, s, t) = false) := by show may _ = false; rw [may_bin id n s t hk]; unfold emp; rw [ht, Bool.false_and, Bool.and_false]
  clear hk
  subst h0
  go_enter Tryd.func24, Tryd.ntmps24
  go_wp2_with (go_at_call 39; refine (kind_use _ 7 (unhide HK) _).mono ?_; rintro e w' ⟨rfl, rfl⟩)
  go_ret
  exact ⟨ret_bool (unhide hm).symm, by go_grown⟩
set_option maxHeartbeats 1000000 in
theorem mayw_7 (id n : Int) (s t : ByteArray) (w : World) (hk : kd id = 7) (h0 : n = 0) (ht : t.toList.isEmpty = true) : Calls Tryd.prog 24 #[.agg #[.int .i64 id, .int .i64 n, .string s, .string t]] w (MayPost (may (id, n, s, t)) w) := by
  unfold MayPost
  have HK := hide hk
  have hm : Hid (may (id, n, s, t) = decide (s.size ≤ 65535)) := by show may _ = _; rw [may_bin id n s t hk]; unfold emp; rw [ht, h0]; rfl
  clear hk
  subst h0
  have hc : ((s.size : Int) ≤ 65535) = (s.size ≤ 65535) := by rw [eq_iff_iff]; omega
  by_cases h6 : s.size ≤ 65535
  · have hm2 : Hid (may (id, 0, s, t) = true) := (unhide hm).trans (decide_eq_true h6)
    go_enter Tryd.func24, Tryd.ntmps24
    go_wp2_with (go_at_call 39; refine (kind_use _ 7 (unhide HK) _).mono ?_; rintro e w' ⟨rfl, rfl⟩)
    go_ret
    exact ⟨ret_bool (unhide hm2).symm, by go_grown⟩
  · have hm2 : Hid (may (id, 0, s, t) = false) := (unhide hm).trans (decide_eq_false h6)
    go_enter Tryd.func24, Tryd.ntmps24
    go_wp2_with (go_at_call 39; refine (kind_use _ 7 (unhide HK) _).mono ?_; rintro e w' ⟨rfl, rfl⟩)
    go_ret
    exact ⟨ret_bool (unhide hm2).symm, by go_grown⟩
set_option maxHeartbeats 1000000 in
theorem mayw_6 (id n : Int) (s t : ByteArray) (w : World) (hk : kd id = 6) (hs : s.size ≤ 4611686018427387904) (h0 : n = 0) (ht : t.toList.isEmpty = true) : Calls Tryd.prog 24 #[.agg #[.int .i64 id, .int .i64 n, .string s, .string t]] w (MayPost (may (id, n, s, t)) w) := by
  unfold MayPost
  have HK := hide hk
  have hm : Hid (may (id, n, s, t) = decide (chk (sb s) = 0)) := by show may _ = _; rw [may_text id n s t hk]; unfold emp; rw [ht, h0]; rfl
  have HC := hide (fun W => rcheck_use s _ rfl W hs)
  clear hk
  subst h0
  generalize chk (sb s) = c at hm HC
  go_enter Tryd.func24, Tryd.ntmps24
  go_wp2_with fail
  refine (kind_use _ 6 (unhide HK) _).mono ?_
  rintro e w' ⟨rfl, hw⟩
  obtain rfl := hw.symm
  clear hw
  go_wp2_with fail
  refine ((unhide HC) _).mono ?_
  rintro e w2 ⟨rfl, hb2⟩
  go_wp2
  go_ret
  refine ⟨ret_bool ?_, ((Below.refl _ _).alloc (Nat.le_refl _) _).trans (hb2.mono (by simp))⟩
  rw [unhide hm]
  rfl
set_option maxHeartbeats 1000000 in
theorem mayw_8s (id n : Int) (s t : ByteArray) (w : World) (hk : kd id = 8) (hs : s.size ≤ 4611686018427387904) (h0 : n = 0) (hc : chk (sb s) ≠ 0) : Calls Tryd.prog 24 #[.agg #[.int .i64 id, .int .i64 n, .string s, .string t]] w (MayPost (may (id, n, s, t)) w) := by
  unfold MayPost
  have HK := hide hk
  have hm : Hid (may (id, n, s, t) = false) := by show may _ = _; rw [may_pair id n s t hk]; simp [hc]
  have HC := hide (fun W => rcheck_use s _ rfl W hs)
  clear hk
  subst h0
  generalize chk (sb s) = c at hc HC
  have bc : (c == 0) = false := beq_eq_false_iff_ne.2 hc
  clear hc
  go_enter Tryd.func24, Tryd.ntmps24
  go_wp2_with fail
  refine (kind_use _ 8 (unhide HK) _).mono ?_
  rintro e w' ⟨rfl, hw⟩
  obtain rfl := hw.symm
  clear hw
  go_wp2_with fail
  refine ((unhide HC) _).mono ?_
  rintro e w2 ⟨rfl, hb2⟩
  go_wp2
  go_ret
  exact ⟨ret_bool (unhide hm).symm, ((Below.refl _ _).alloc (Nat.le_refl _) _).trans (hb2.mono (by simp))⟩
set_option maxHeartbeats 1000000 in
theorem mayw_8 (id n : Int) (s t : ByteArray) (w : World) (hk : kd id = 8) (hs : s.size ≤ 4611686018427387904) (ht : t.size ≤ 4611686018427387904) (h0 : n = 0) (hc : chk (sb s) = 0) : Calls Tryd.prog 24 #[.agg #[.int .i64 id, .int .i64 n, .string s, .string t]] w (MayPost (may (id, n, s, t)) w) := by
  unfold MayPost
  have HK := hide hk
  have hm : Hid (may (id, n, s, t) = decide (chk (sb t) = 0)) := by show may _ = _; rw [may_pair id n s t hk, hc, h0]; rfl
  have HC := hide (fun W => rcheck_use s 0 hc W hs)
  have HT := hide (fun W => rcheck_use t _ rfl W ht)
  clear hk hc
  subst h0
  generalize chk (sb t) = d at hm HT
  go_enter Tryd.func24, Tryd.ntmps24
  go_wp2_with fail
  refine (kind_use _ 8 (unhide HK) _).mono ?_
  rintro e w' ⟨rfl, hw⟩
  obtain rfl := hw.symm
  clear hw
  go_wp2_with fail
  refine ((unhide HC) _).mono ?_
  rintro e w2 ⟨rfl, hb2⟩
  have HB2 : Hid (Below w.heap.size w w2) := ((Below.refl _ _).alloc (Nat.le_refl _) _).trans (hb2.mono (by simp))
  have c3 : w2.cell? ⟨w.heap.size, 3, none⟩ = some (.string t) := (hb2.cell (p := ⟨w.heap.size, 3, none⟩) (by simp)).trans (by simp)
  clear hb2
  go_wp2_with fail
  refine ((unhide HT) _).mono ?_
  rintro e w3 ⟨rfl, hb3⟩
  go_wp2
  go_ret
  refine ⟨ret_bool ?_, (unhide HB2).trans (hb3.mono (unhide HB2).size)⟩
  rw [unhide hm]
  rfl
set_option maxHeartbeats 1000000 in
theorem mayw_0 (id n : Int) (s t : ByteArray) (w : World) (hk : kd id = 0)  : Calls Tryd.prog 24 #[.agg #[.int .i64 id, .int .i64 n, .string s, .string t]] w (MayPost (may (id, n, s, t)) w) := by
  unfold MayPost
  have HK := hide hk
  have hm : Hid (may (id, n, s, t) = false) := not_may_none id n s t hk
  clear hk
  go_enter Tryd.func24, Tryd.ntmps24
  go_wp2_with (go_at_call 39; refine (kind_use _ 0 (unhide HK) _).mono ?_; rintro e w' ⟨rfl, rfl⟩)
  go_ret
  exact ⟨ret_bool (unhide hm).symm, by go_grown⟩
theorem may_any (id n : Int) (s t : ByteArray) (w : World) (hs : s.size ≤ 4611686018427387904) (ht : t.size ≤ 4611686018427387904) : Calls Tryd.prog 24 #[.agg #[.int .i64 id, .int .i64 n, .string s, .string t]] w (MayPost (may (id, n, s, t)) w) := by
  have hx : mx id = (if kd id = 1 then 1 else if kd id = 2 then 65535 else if kd id = 4 then 4294967295 else if kd id = 5 then 268435455 else 0) := rfl
  rcases kd_cases id with h | h | h | h | h | h | h | h
  · exact mayw_0 id n s t w h
  · rw [may_num id n 1 s t h (by omega), hx, if_pos h, show lst id = 0 from by
      unfold lst; rw [if_neg]; rintro (rfl | rfl | rfl | rfl) <;> revert h <;> decide]
    exact may_1 id n s t w h
  · rw [may_num id n 2 s t h (by omega), hx, if_neg (by omega), if_pos h]
    by_cases e33 : id = 33
    · subst e33; exact may_33 n s t w h
    by_cases e35 : id = 35
    · subst e35; exact may_35 n s t w h
    rw [show lst id = 0 from by
      unfold lst; rw [if_neg]; rintro (rfl | rfl | rfl | rfl) <;> first | exact e33 rfl | exact e35 rfl | (revert h; decide)]
    exact may_2 id n s t w h e33 e35
  · rw [may_num id n 4 s t h (by omega), hx, if_neg (by omega), if_neg (by omega), if_pos h]
    by_cases e39 : id = 39
    · subst e39; exact may_39 n s t w h
    rw [show lst id = 0 from by
      unfold lst; rw [if_neg]; rintro (rfl | rfl | rfl | rfl) <;> first | exact e39 rfl | (revert h; decide)]
    exact may_4 id n s t w h e39
  · rw [may_num id n 5 s t h (by omega), hx, if_neg (by omega), if_neg (by omega), if_neg (by omega), if_pos h]
    have e11 : id = 11 := by
      revert h; unfold kd
      repeat' split
      all_goals (intro h; first | omega | assumption)
    subst e11
    exact may_5 11 n s t w h
  · by_cases h0 : n = 0
    · by_cases hte : t.toList.isEmpty = true
      · exact mayw_6 id n s t w h hs h0 hte
      · exact mayw_6_t id n s t w h h0 (by simpa using hte)
    · exact mayw_6_n id n s t w h h0
  · by_cases h0 : n = 0
    · by_cases hte : t.toList.isEmpty = true
      · exact mayw_7 id n s t w h h0 hte
      · exact mayw_7_t id n s t w h h0 (by simpa using hte)
    · exact mayw_7_n id n s t w h h0
  · by_cases h0 : n = 0
    · by_cases hc : chk (sb s) = 0
      · exact mayw_8 id n s t w h hs ht h0 hc
      · exact mayw_8s id n s t w h hs h0 hc
    · exact mayw_8_n id n s t w h h0
end Go.Proofs.YtpfpollejhdbgaaDoor
/- Proved here: dovecoteref3.places tells the places of any ID. Helper contracts. -/
namespace Go.Proofs.YtpfpollejhdbgaaDoor
open Go.RowKit
set_option maxRecDepth 100000

def PlacesPost (id : Int) (w : World) (e : Ending) (w' : World) : Prop := ∃ v, e = .returned v ∧ Hid (Ints w' v (plc id)) ∧ Below w.heap.size w w'
set_option maxHeartbeats 4000000 in
theorem places_1 (w : World) : Calls Tryd.prog 26 #[.int .i64 1] w (PlacesPost 1 w) := by
  unfold PlacesPost
  go_enter Tryd.func26, Tryd.ntmps26
  go_wp2
  go_ret
  exact ⟨_, rfl, ints_lit _ [3, 16] 2 rfl (by omega) 3, by go_grown⟩
set_option maxHeartbeats 4000000 in
theorem places_2 (w : World) : Calls Tryd.prog 26 #[.int .i64 2] w (PlacesPost 2 w) := by
  unfold PlacesPost
  go_enter Tryd.func26, Tryd.ntmps26
  go_wp2
  go_ret
  exact ⟨_, rfl, ints_lit _ [3, 16] 2 rfl (by omega) 3, by go_grown⟩
set_option maxHeartbeats 4000000 in
theorem places_3 (w : World) : Calls Tryd.prog 26 #[.int .i64 3] w (PlacesPost 3 w) := by
  unfold PlacesPost
  go_enter Tryd.func26, Tryd.ntmps26
  go_wp2
  go_ret
  exact ⟨_, rfl, ints_lit _ [3, 16] 2 rfl (by omega) 3, by go_grown⟩
set_option maxHeartbeats 4000000 in
theorem places_8 (w : World) : Calls Tryd.prog 26 #[.int .i64 8] w (PlacesPost 8 w) := by
  unfold PlacesPost
  go_enter Tryd.func26, Tryd.ntmps26
  go_wp2
  go_ret
  exact ⟨_, rfl, ints_lit _ [3, 16] 2 rfl (by omega) 3, by go_grown⟩
set_option maxHeartbeats 4000000 in
theorem places_9 (w : World) : Calls Tryd.prog 26 #[.int .i64 9] w (PlacesPost 9 w) := by
  unfold PlacesPost
  go_enter Tryd.func26, Tryd.ntmps26
  go_wp2
  go_ret
  exact ⟨_, rfl, ints_lit _ [3, 16] 2 rfl (by omega) 3, by go_grown⟩
set_option maxHeartbeats 4000000 in
theorem places_11 (w : World) : Calls Tryd.prog 26 #[.int .i64 11] w (PlacesPost 11 w) := by
  unfold PlacesPost
  go_enter Tryd.func26, Tryd.ntmps26
  go_wp2
  go_ret
  exact ⟨_, rfl, ints_lit _ [3, 8] 2 rfl (by omega) 3, by go_grown⟩
set_option maxHeartbeats 4000000 in
theorem places_17 (w : World) : Calls Tryd.prog 26 #[.int .i64 17] w (PlacesPost 17 w) := by
  unfold PlacesPost
  go_enter Tryd.func26, Tryd.ntmps26
  go_wp2
  go_ret
  exact ⟨_, rfl, ints_lit _ [1, 2, 14] 3 rfl (by omega) 3, by go_grown⟩
set_option maxHeartbeats 4000000 in
theorem places_18 (w : World) : Calls Tryd.prog 26 #[.int .i64 18] w (PlacesPost 18 w) := by
  unfold PlacesPost
  go_enter Tryd.func26, Tryd.ntmps26
  go_wp2
  go_ret
  exact ⟨_, rfl, ints_lit _ [2] 1 rfl (by omega) 3, by go_grown⟩
set_option maxHeartbeats 4000000 in
theorem places_19 (w : World) : Calls Tryd.prog 26 #[.int .i64 19] w (PlacesPost 19 w) := by
  unfold PlacesPost
  go_enter Tryd.func26, Tryd.ntmps26
  go_wp2
  go_ret
  exact ⟨_, rfl, ints_lit _ [2] 1 rfl (by omega) 3, by go_grown⟩
set_option maxHeartbeats 4000000 in
theorem places_21 (w : World) : Calls Tryd.prog 26 #[.int .i64 21] w (PlacesPost 21 w) := by
  unfold PlacesPost
  go_enter Tryd.func26, Tryd.ntmps26
  go_wp2
  go_ret
  exact ⟨_, rfl, ints_lit _ [1, 2, 15] 3 rfl (by omega) 3, by go_grown⟩
set_option maxHeartbeats 4000000 in
theorem places_22 (w : World) : Calls Tryd.prog 26 #[.int .i64 22] w (PlacesPost 22 w) := by
  unfold PlacesPost
  go_enter Tryd.func26, Tryd.ntmps26
  go_wp2
  go_ret
  exact ⟨_, rfl, ints_lit _ [1, 2, 15] 3 rfl (by omega) 3, by go_grown⟩
set_option maxHeartbeats 4000000 in
theorem places_23 (w : World) : Calls Tryd.prog 26 #[.int .i64 23] w (PlacesPost 23 w) := by
  unfold PlacesPost
  go_enter Tryd.func26, Tryd.ntmps26
  go_wp2
  go_ret
  exact ⟨_, rfl, ints_lit _ [1] 1 rfl (by omega) 3, by go_grown⟩
set_option maxHeartbeats 4000000 in
theorem places_24 (w : World) : Calls Tryd.prog 26 #[.int .i64 24] w (PlacesPost 24 w) := by
  unfold PlacesPost
  go_enter Tryd.func26, Tryd.ntmps26
  go_wp2
  go_ret
  exact ⟨_, rfl, ints_lit _ [16] 1 rfl (by omega) 3, by go_grown⟩
set_option maxHeartbeats 4000000 in
theorem places_25 (w : World) : Calls Tryd.prog 26 #[.int .i64 25] w (PlacesPost 25 w) := by
  unfold PlacesPost
  go_enter Tryd.func26, Tryd.ntmps26
  go_wp2
  go_ret
  exact ⟨_, rfl, ints_lit _ [1] 1 rfl (by omega) 3, by go_grown⟩
set_option maxHeartbeats 4000000 in
theorem places_26 (w : World) : Calls Tryd.prog 26 #[.int .i64 26] w (PlacesPost 26 w) := by
  unfold PlacesPost
  go_enter Tryd.func26, Tryd.ntmps26
  go_wp2
  go_ret
  exact ⟨_, rfl, ints_lit _ [2] 1 rfl (by omega) 3, by go_grown⟩
set_option maxHeartbeats 4000000 in
theorem places_28 (w : World) : Calls Tryd.prog 26 #[.int .i64 28] w (PlacesPost 28 w) := by
  unfold PlacesPost
  go_enter Tryd.func26, Tryd.ntmps26
  go_wp2
  go_ret
  exact ⟨_, rfl, ints_lit _ [2, 14] 2 rfl (by omega) 3, by go_grown⟩
set_option maxHeartbeats 4000000 in
theorem places_31 (w : World) : Calls Tryd.prog 26 #[.int .i64 31] w (PlacesPost 31 w) := by
  unfold PlacesPost
  go_enter Tryd.func26, Tryd.ntmps26
  go_wp2
  go_ret
  exact ⟨_, rfl, ints_lit _ [2, 4, 5, 6, 7, 9, 11, 14, 15] 9 rfl (by omega) 3, by go_grown⟩
set_option maxHeartbeats 4000000 in
theorem places_33 (w : World) : Calls Tryd.prog 26 #[.int .i64 33] w (PlacesPost 33 w) := by
  unfold PlacesPost
  go_enter Tryd.func26, Tryd.ntmps26
  go_wp2
  go_ret
  exact ⟨_, rfl, ints_lit _ [1, 2] 2 rfl (by omega) 3, by go_grown⟩
set_option maxHeartbeats 4000000 in
theorem places_34 (w : World) : Calls Tryd.prog 26 #[.int .i64 34] w (PlacesPost 34 w) := by
  unfold PlacesPost
  go_enter Tryd.func26, Tryd.ntmps26
  go_wp2
  go_ret
  exact ⟨_, rfl, ints_lit _ [1, 2] 2 rfl (by omega) 3, by go_grown⟩
set_option maxHeartbeats 4000000 in
theorem places_35 (w : World) : Calls Tryd.prog 26 #[.int .i64 35] w (PlacesPost 35 w) := by
  unfold PlacesPost
  go_enter Tryd.func26, Tryd.ntmps26
  go_wp2
  go_ret
  exact ⟨_, rfl, ints_lit _ [3] 1 rfl (by omega) 3, by go_grown⟩
set_option maxHeartbeats 4000000 in
theorem places_36 (w : World) : Calls Tryd.prog 26 #[.int .i64 36] w (PlacesPost 36 w) := by
  unfold PlacesPost
  go_enter Tryd.func26, Tryd.ntmps26
  go_wp2
  go_ret
  exact ⟨_, rfl, ints_lit _ [2] 1 rfl (by omega) 3, by go_grown⟩
set_option maxHeartbeats 4000000 in
theorem places_37 (w : World) : Calls Tryd.prog 26 #[.int .i64 37] w (PlacesPost 37 w) := by
  unfold PlacesPost
  go_enter Tryd.func26, Tryd.ntmps26
  go_wp2
  go_ret
  exact ⟨_, rfl, ints_lit _ [2] 1 rfl (by omega) 3, by go_grown⟩
set_option maxHeartbeats 4000000 in
theorem places_38 (w : World) : Calls Tryd.prog 26 #[.int .i64 38] w (PlacesPost 38 w) := by
  unfold PlacesPost
  go_enter Tryd.func26, Tryd.ntmps26
  go_wp2
  go_ret
  exact ⟨_, rfl, ints_lit _ [1, 2, 3, 4, 5, 6, 7, 8, 9, 10, 11, 14, 15, 16] 14 rfl (by omega) 3, by go_grown⟩
set_option maxHeartbeats 4000000 in
theorem places_39 (w : World) : Calls Tryd.prog 26 #[.int .i64 39] w (PlacesPost 39 w) := by
  unfold PlacesPost
  go_enter Tryd.func26, Tryd.ntmps26
  go_wp2
  go_ret
  exact ⟨_, rfl, ints_lit _ [1, 2] 2 rfl (by omega) 3, by go_grown⟩
set_option maxHeartbeats 4000000 in
theorem places_40 (w : World) : Calls Tryd.prog 26 #[.int .i64 40] w (PlacesPost 40 w) := by
  unfold PlacesPost
  go_enter Tryd.func26, Tryd.ntmps26
  go_wp2
  go_ret
  exact ⟨_, rfl, ints_lit _ [2] 1 rfl (by omega) 3, by go_grown⟩
set_option maxHeartbeats 4000000 in
theorem places_41 (w : World) : Calls Tryd.prog 26 #[.int .i64 41] w (PlacesPost 41 w) := by
  unfold PlacesPost
  go_enter Tryd.func26, Tryd.ntmps26
  go_wp2
  go_ret
  exact ⟨_, rfl, ints_lit _ [2] 1 rfl (by omega) 3, by go_grown⟩
set_option maxHeartbeats 4000000 in
theorem places_42 (w : World) : Calls Tryd.prog 26 #[.int .i64 42] w (PlacesPost 42 w) := by
  unfold PlacesPost
  go_enter Tryd.func26, Tryd.ntmps26
  go_wp2
  go_ret
  exact ⟨_, rfl, ints_lit _ [2] 1 rfl (by omega) 3, by go_grown⟩
set_option maxHeartbeats 4000000 in
theorem places_none (id : Int) (w : World) (hp : plc id = []) (b1 : (id == 1) = false) (b2 : (id == 2) = false) (b3 : (id == 3) = false) (b8 : (id == 8) = false) (b9 : (id == 9) = false) (b11 : (id == 11) = false) (b17 : (id == 17) = false) (b18 : (id == 18) = false) (b19 : (id == 19) = false) (b21 : (id == 21) = false) (b22 : (id == 22) = false) (b23 : (id == 23) = false) (b24 : (id == 24) = false) (b25 : (id == 25) = false) (b26 : (id == 26) = false) (b28 : (id == 28) = false) (b31 : (id == 31) = false) (b33 : (id == 33) = false) (b34 : (id == 34) = false) (b35 : (id == 35) = false) (b36 : (id == 36) = false) (b37 : (id == 37) = false) (b38 : (id == 38) = false) (b39 : (id == 39) = false) (b40 : (id == 40) = false) (b41 : (id == 41) = false) (b42 : (id == 42) = false) : Calls Tryd.prog 26 #[.int .i64 id] w (PlacesPost id w) := by
  have hm : Hid (plc id = []) := hp
  clear hp
  unfold PlacesPost
  go_enter Tryd.func26, Tryd.ntmps26
  go_wp2
  go_ret
  exact ⟨_, rfl, by rw [unhide hm]; exact ⟨none, 0, rfl, by simp, .inl rfl⟩, Below.refl _ _⟩
theorem places_any (id : Int) (w : World) : Calls Tryd.prog 26 #[.int .i64 id] w (PlacesPost id w) := by
  refine id_cases (P := fun id => Calls Tryd.prog 26 #[.int .i64 id] w (PlacesPost id w)) id (places_1 w) (places_2 w) (places_3 w) (places_8 w) (places_9 w) (places_11 w) (places_17 w) (places_18 w) (places_19 w) (places_21 w) (places_22 w) (places_23 w) (places_24 w) (places_25 w) (places_26 w) (places_28 w) (places_31 w) (places_33 w) (places_34 w) (places_35 w) (places_36 w) (places_37 w) (places_38 w) (places_39 w) (places_40 w) (places_41 w) (places_42 w) ?_
  intro n1 n2 n3 n8 n9 n11 n17 n18 n19 n21 n22 n23 n24 n25 n26 n28 n31 n33 n34 n35 n36 n37 n38 n39 n40 n41 n42
  exact places_none id w (plc_none id n1 n2 n3 n8 n9 n11 n17 n18 n19 n21 n22 n23 n24 n25 n26 n28 n31 n33 n34 n35 n36 n37 n38 n39 n40 n41 n42) (beq_eq_false_iff_ne.2 n1) (beq_eq_false_iff_ne.2 n2) (beq_eq_false_iff_ne.2 n3) (beq_eq_false_iff_ne.2 n8) (beq_eq_false_iff_ne.2 n9) (beq_eq_false_iff_ne.2 n11) (beq_eq_false_iff_ne.2 n17) (beq_eq_false_iff_ne.2 n18) (beq_eq_false_iff_ne.2 n19) (beq_eq_false_iff_ne.2 n21) (beq_eq_false_iff_ne.2 n22) (beq_eq_false_iff_ne.2 n23) (beq_eq_false_iff_ne.2 n24) (beq_eq_false_iff_ne.2 n25) (beq_eq_false_iff_ne.2 n26) (beq_eq_false_iff_ne.2 n28) (beq_eq_false_iff_ne.2 n31) (beq_eq_false_iff_ne.2 n33) (beq_eq_false_iff_ne.2 n34) (beq_eq_false_iff_ne.2 n35) (beq_eq_false_iff_ne.2 n36) (beq_eq_false_iff_ne.2 n37) (beq_eq_false_iff_ne.2 n38) (beq_eq_false_iff_ne.2 n39) (beq_eq_false_iff_ne.2 n40) (beq_eq_false_iff_ne.2 n41) (beq_eq_false_iff_ne.2 n42)
end Go.Proofs.YtpfpollejhdbgaaDoor
/- Proved here: dovecoteref3.Check tells the number chkP of any properties read from memory. Helper contracts. -/
namespace Go.Proofs.YtpfpollejhdbgaaDoor
open Go.RowKit
set_option maxRecDepth 100000

theorem may_use (id n : Int) (s t : ByteArray) (b : Bool) (h : may (id, n, s, t) = b) (w : World) (hs : s.size ≤ 4611686018427387904) (ht : t.size ≤ 4611686018427387904) : Calls Tryd.prog 24 #[.agg #[.int .i64 id, .int .i64 n, .string s, .string t]] w fun e w' => e = .returned (.bool b) ∧ Below w.heap.size w w' := by
  subst h
  exact may_any id n s t w hs ht
theorem in_use (vx : Value) (xs : List Int) (v : Int) (b : Bool) (hb : decide (v ∈ xs) = b) (w : World) (h : Ints w vx xs) :
    Calls Tryd.prog 25 #[vx, .int .i64 v] w fun e w' => (∃ r : Int, e = .returned (.int .i64 r) ∧ (decide (r < 0)) = (!b)) ∧ w' = w := by
  subst hb
  exact in_any vx xs v w h
theorem seen_iff (l : List Pr) (k : Nat) (hk : k ≤ l.length) (id : Int) : seen l k id = false ↔ ∀ j, j < k → (at0 l j).1 ≠ id := by
  unfold seen at0
  rw [List.any_eq_false]
  constructor
  · intro h j hj
    have hm : l.getD j p0 ∈ l.take k := by
      rw [List.mem_take_iff_getElem]
      exact ⟨j, by omega, by rw [List.getD_eq_getElem?_getD, List.getElem?_eq_getElem (by omega)]; rfl⟩
    simpa using h _ hm
  · intro h x hx
    rw [List.mem_take_iff_getElem] at hx
    obtain ⟨j, hj, rfl⟩ := hx
    have := h j (by omega)
    rw [List.getD_eq_getElem?_getD, List.getElem?_eq_getElem (by omega)] at this
    simpa using this
set_option maxHeartbeats 8000000 in
theorem rchk_core (b off cap : Nat) (l : List Pr) (len : Nat) (place : Int) (w : World) (hlen : l.length = len) (hmx : len ≤ 1000000000) (hsm : Small l) (hl : PrAt w b off l) :
    Calls Tryd.prog 11 #[.slice (some ⟨b, off, none⟩) len cap, .int .i64 place] w fun e w' => e = .returned (.int .i64 (chkP place l)) ∧ Below w.heap.size w w' := by
  have HL := hide hl
  have HLEN := hide hlen
  have HSM := hide hsm
  clear hl hlen hsm
  go_enter Tryd.func11, Tryd.ntmps11
  go_wp2
  go_loopw [5] (fun i wr => ∃ k : Nat, k ≤ len ∧ i = .int .i64 k ∧ Hid (okTo place l k) ∧ Below w.heap.size w wr) (fun i _ => len - (intOf i).toNat)
  case atStart => exact ⟨0, Nat.zero_le _, rfl, okTo_zero _ _, Below.refl _ _⟩
  case round =>
    obtain ⟨k, hk, rfl, HOT, hbel⟩ := hrel
    have hsz := hbel.size
    by_cases hlt : k < len
    · have HPA := hide ((unhide HL).below hbel)
      obtain ⟨h0, h1, h2, h3⟩ := (unhide HPA) k (by rw [unhide HLEN]; exact hlt)
      have hsm := (unhide HSM) k (by rw [unhide HLEN]; exact hlt)
      have HLTk : Hid (k < l.length) := by show _ < _; rw [unhide HLEN]; exact hlt
      have HKO : Hid (okAt place l k = (mst (at0 l k).1 place && may (at0 l k) && (rep (at0 l k).1 place || !(seen l k (at0 l k).1)))) := rfl
      have HSI := hide (seen_iff l k (Nat.le_of_lt (unhide HLTk)) (at0 l k).1)
      obtain ⟨id, n, s, t, hp⟩ : ∃ id n s t, at0 l k = (id, n, s, t) := ⟨_, _, _, _, rfl⟩
      rw [hp] at h0 h1 h2 h3 hsm HKO HSI
      simp only at h0 h1 h2 h3 hsm
      have HBEL := hide hbel
      have HSMK := hide hsm
      clear hp hbel hsm
      have hbl := cell_lt h0
      cases hmay : may (id, n, s, t)
      · have HC : Hid (chkP place l = 1) := chkP_bad place l k (unhide HLTk) ((unhide HKO).trans (by rw [hmay, Bool.and_false, Bool.false_and]))
        have HM := hide hmay
        clear hmay HKO
        go_wp2_with fail
        refine (may_use id n s t false (unhide HM) _ (unhide HSMK).1 (unhide HSMK).2).mono ?_
        rintro e w2 ⟨rfl, hb2⟩
        go_wp2
        go_ret
        exact ⟨ret_int (unhide HC).symm, (unhide HBEL).trans (hb2.mono hsz)⟩
      · have HM := hide hmay
        cases hmst : mst id place
        · have HC : Hid (chkP place l = 1) := chkP_bad place l k (unhide HLTk) ((unhide HKO).trans (by rw [hmst]; rfl))
          have HMS : Hid (decide (place ∈ plc id) = false) := hmst
          clear hmay HKO hmst
          go_wp2_with fail
          refine (may_use id n s t true (unhide HM) _ (unhide HSMK).1 (unhide HSMK).2).mono ?_
          rintro e w2 ⟨rfl, hb2⟩
          have g0 : w2.cell? ⟨b, off + k * 4, none⟩ = some (.int .i64 id) := (hb2.cell (p := ⟨b, off + k * 4, none⟩) hbl).trans h0
          have HB2 : Hid (Below w.heap.size w w2) := (unhide HBEL).trans (hb2.mono hsz)
          clear hb2
          go_wp2_with fail
          refine (places_any id _).mono ?_
          rintro e w3 ⟨v3, rfl, hi3, hb3⟩
          have HB3 : Hid (Below w.heap.size w w3) := (unhide HB2).trans (hb3.mono (unhide HB2).size)
          clear hb3
          go_wp2_with fail
          refine (in_use v3 (plc id) place false (unhide HMS) _ (unhide hi3)).mono ?_
          rintro e w4 ⟨⟨r, rfl, hr⟩, hw⟩
          obtain rfl := hw.symm
          clear hw
          have hr' : r < 0 := by simpa using hr
          clear hr
          go_wp2
          go_ret
          exact ⟨ret_int (unhide HC).symm, unhide HB3⟩
        · have HMS : Hid (decide (place ∈ plc id) = true) := hmst
          have HRS : Hid (okAt place l k = (rep id place || !(seen l k id))) := (unhide HKO).trans (by rw [hmst, hmay]; rfl)
          clear hmay HKO hmst
          go_wp2_with fail
          refine (may_use id n s t true (unhide HM) _ (unhide HSMK).1 (unhide HSMK).2).mono ?_
          rintro e w2 ⟨rfl, hb2⟩
          have g0 : w2.cell? ⟨b, off + k * 4, none⟩ = some (.int .i64 id) := (hb2.cell (p := ⟨b, off + k * 4, none⟩) hbl).trans h0
          have HB2 : Hid (Below w.heap.size w w2) := (unhide HBEL).trans (hb2.mono hsz)
          clear hb2
          go_wp2_with fail
          refine (places_any id _).mono ?_
          rintro e w3 ⟨v3, rfl, hi3, hb3⟩
          have HB3 : Hid (Below w.heap.size w w3) := (unhide HB2).trans (hb3.mono (unhide HB2).size)
          clear hb3
          go_wp2_with fail
          refine (in_use v3 (plc id) place true (unhide HMS) _ (unhide hi3)).mono ?_
          rintro e w4 ⟨⟨r, rfl, hr⟩, hw⟩
          obtain rfl := hw.symm
          clear hw hi3
          have hr' : ¬ r < 0 := by simpa using hr
          clear hr
          have HPA3 : Hid (PrAt w3 b off l) := (unhide HL).below (unhide HB3)
          have g3 : w3.cell? ⟨b, off + k * 4, none⟩ = some (.int .i64 id) := ((unhide HB3).cell (p := ⟨b, off + k * 4, none⟩) (by have := cell_lt ((unhide HL) k (unhide HLTk)).1; exact this)).trans (((unhide HBEL).cell (p := ⟨b, off + k * 4, none⟩) (by have := cell_lt ((unhide HL) k (unhide HLTk)).1; exact this)).symm.trans h0)
          clear g0 HB2 HBEL h0 h1 h2 h3 HPA HM HMS HSMK hbl
          have hrep : rep id place = (decide (id = 38) || (decide (id = 11) && decide (place = 3))) := rfl
          have HREP := hide hrep
          clear hrep hsz
          by_cases e38 : id = 38
          · have HOK : Hid (okAt place l k = true) := by show okAt place l k = true; rw [unhide HRS, unhide HREP, e38]; rfl
            subst e38
            go_wp2
            go_roundw
            case rel => exact ⟨k + 1, by omega, by go_num, okTo_succ (unhide HOT) (unhide HOK), unhide HB3⟩
            case measure => simp [intOf]; omega
          have b38 : (id == 38) = false := beq_eq_false_iff_ne.2 e38
          by_cases e11 : id = 11
          · by_cases e3 : place = 3
            · have HOK : Hid (okAt place l k = true) := by show okAt place l k = true; rw [unhide HRS, unhide HREP, e11, e3]; rfl
              subst e11
              subst e3
              clear e38 b38
              go_wp2
              go_roundw
              case rel => exact ⟨k + 1, by omega, by go_num, okTo_succ (unhide HOT) (unhide HOK), unhide HB3⟩
              case measure => simp [intOf]; omega
            · have HRF : Hid (rep id place = false) := by show rep id place = false; rw [unhide HREP]; simp [e38, e3]
              have b3 : (place == 3) = false := beq_eq_false_iff_ne.2 e3
              have b11 : (id == 11) = true := beq_iff_eq.2 e11
              clear e38 e3 e11
              go_wp2
              go_loopw [6] (fun j wr => ∃ m q : Nat, m ≤ k ∧ j = .int .i64 m ∧ wr = w3.drewN q ∧ Hid (∀ i, i < m → (at0 l i).1 ≠ id)) (fun j _ => k - (intOf j).toNat)
              case atStart => exact ⟨0, 0, Nat.zero_le _, rfl, rfl, fun i hi => absurd hi (Nat.not_lt_zero i)⟩
              case round =>
                obtain ⟨m, q, hm, rfl, rfl, HNE⟩ := hrel
                by_cases hmk : m < k
                · have hcm := ((unhide HPA3) m (Nat.lt_trans hmk (unhide HLTk))).1
                  generalize hx : (at0 l m).1 = x at hcm
                  have HX := hide hx
                  clear hx
                  by_cases hxy : x = id
                  · have hbq : (x == id) = true := beq_iff_eq.2 hxy
                    have HC : Hid (chkP place l = 1) := chkP_bad place l k (unhide HLTk) (by
                      rw [unhide HRS, unhide HRF, Bool.false_or, Bool.not_eq_false']
                      cases hs : seen l k id
                      · exact absurd ((unhide HX).trans hxy) (((unhide HSI).1 hs) m hmk)
                      · rfl)
                    clear hxy
                    go_wp2
                    go_quiet (fail)
                    go_wp2
                    go_ret
                    exact ⟨ret_int (unhide HC).symm, below_drewN (below_drewN (unhide HB3) _) _⟩
                  · have hbq : (x == id) = false := beq_eq_false_iff_ne.2 hxy
                    have HXY := hide hxy
                    clear hxy
                    go_wp2
                    go_quiet (fail)
                    go_wp2
                    go_roundw
                    case rel => exact ⟨m + 1, _, by omega, by go_num, rfl, fun i hi => by
                      rcases Nat.lt_succ_iff_lt_or_eq.1 hi with h | h
                      · exact (unhide HNE) i h
                      · rw [h, unhide HX]; exact unhide HXY⟩
                    case measure => simp [intOf]; omega
                · obtain rfl : m = k := by omega
                  have HOK : Hid (okAt place l m = true) := by
                    show okAt place l m = true
                    rw [unhide HRS, unhide HRF, (unhide HSI).2 (unhide HNE)]; rfl
                  go_wp2
                  go_roundw
                  case rel => exact ⟨m + 1, by omega, by go_num, okTo_succ (unhide HOT) (unhide HOK), below_drewN (unhide HB3) _⟩
                  case measure => simp [intOf]; omega
          · have HRF : Hid (rep id place = false) := by show rep id place = false; rw [unhide HREP]; simp [e38, e11]
            have b11 : (id == 11) = false := beq_eq_false_iff_ne.2 e11
            clear e38 e11
            go_wp2
            go_loopw [6] (fun j wr => ∃ m q : Nat, m ≤ k ∧ j = .int .i64 m ∧ wr = w3.drewN q ∧ Hid (∀ i, i < m → (at0 l i).1 ≠ id)) (fun j _ => k - (intOf j).toNat)
            case atStart => exact ⟨0, 0, Nat.zero_le _, rfl, rfl, fun i hi => absurd hi (Nat.not_lt_zero i)⟩
            case round =>
              obtain ⟨m, q, hm, rfl, rfl, HNE⟩ := hrel
              by_cases hmk : m < k
              · have hcm := ((unhide HPA3) m (Nat.lt_trans hmk (unhide HLTk))).1
                generalize hx : (at0 l m).1 = x at hcm
                have HX := hide hx
                clear hx
                by_cases hxy : x = id
                · have hbq : (x == id) = true := beq_iff_eq.2 hxy
                  have HC : Hid (chkP place l = 1) := chkP_bad place l k (unhide HLTk) (by
                    rw [unhide HRS, unhide HRF, Bool.false_or, Bool.not_eq_false']
                    cases hs : seen l k id
                    · exact absurd ((unhide HX).trans hxy) (((unhide HSI).1 hs) m hmk)
                    · rfl)
                  clear hxy
                  go_wp2
                  go_quiet (fail)
                  go_wp2
                  go_ret
                  exact ⟨ret_int (unhide HC).symm, below_drewN (below_drewN (unhide HB3) _) _⟩
                · have hbq : (x == id) = false := beq_eq_false_iff_ne.2 hxy
                  have HXY := hide hxy
                  clear hxy
                  go_wp2
                  go_quiet (fail)
                  go_wp2
                  go_roundw
                  case rel => exact ⟨m + 1, _, by omega, by go_num, rfl, fun i hi => by
                    rcases Nat.lt_succ_iff_lt_or_eq.1 hi with h | h
                    · exact (unhide HNE) i h
                    · rw [h, unhide HX]; exact unhide HXY⟩
                  case measure => simp [intOf]; omega
              · obtain rfl : m = k := by omega
                have HOK : Hid (okAt place l m = true) := by
                  show okAt place l m = true
                  rw [unhide HRS, unhide HRF, (unhide HSI).2 (unhide HNE)]; rfl
                go_wp2
                go_roundw
                case rel => exact ⟨m + 1, by omega, by go_num, okTo_succ (unhide HOT) (unhide HOK), below_drewN (unhide HB3) _⟩
                case measure => simp [intOf]; omega
    · obtain rfl : k = len := by omega
      have HOT' : Hid (okTo place l l.length) := by show okTo _ _ _; rw [unhide HLEN]; exact unhide HOT
      rcases Nat.lt_or_ge 32 k with h32 | h32
      · have HC : Hid (chkP place l = 2) := chkP_lim place l (unhide HOT') (by rw [unhide HLEN]; exact h32)
        go_wp2
        go_ret
        exact ⟨ret_int (unhide HC).symm, hbel⟩
      · have HC : Hid (chkP place l = 0) := chkP_ok place l (unhide HOT') (by rw [unhide HLEN]; exact h32)
        go_wp2
        go_ret
        exact ⟨ret_int (unhide HC).symm, hbel⟩
end Go.Proofs.YtpfpollejhdbgaaDoor
