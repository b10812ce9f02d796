/- Proved here: prop.Get tells the properties with which bytes begin, and how many bytes, or an error's number (pgt). Helper contracts. -/
import Derived.Test.YtpfpollejhdbgaaDoorPGRead
namespace Go.Proofs.YtpfpollejhdbgaaDoor
open Go.RowKit
set_option maxRecDepth 100000

/-- the bytes that a length at the beginning tells -/
def pbd (l : List Int) : List Int := (l.drop (ghd l)).take (gid l).toNat
/-- Get's number -/
def pgt (place : Int) (l : List Int) : Int := if (V.vget l).2.2 ≠ 0 then (V.vget l).2.2 else if l.length < ghd l + (gid l).toNat then 3 else rdn place (pbd l)
/-- Get's properties -/
def plist (place : Int) (l : List Int) : List Pr := if pgt place l = 0 then (parse (pbd l)).getD [] else []
/-- .. and how many bytes -/
def psz (place : Int) (l : List Int) : Int := if pgt place l = 0 then ghd l + (gid l).toNat else 0
def GetPost (place : Int) (l : List Int) (w : World) (e : Ending) (w' : World) : Prop :=
  ∃ v E, e = .returned (.tuple #[v, .int .i64 (psz place l), E]) ∧ Hid (w'.ownsRow w.heap.size 49 4 v (plist place l).length (pcs (plist place l))) ∧ Hid (ErrP w' E (pgt place l)) ∧ Below w.heap.size w w'
theorem get_post_bad (place : Int) (l : List Int) (w w' : World) (n : Int) (hp : pgt place l = n) (hn : n ≠ 0) (x : Value) (hE : Hid (ErrP w' (.iface 79 x) n)) (hb : Below w.heap.size w w') : GetPost place l w (.returned (.tuple #[.slice none 0 0, .int .i64 0, .iface 79 x])) w' := by
  refine ⟨.slice none 0 0, .iface 79 x, ?_, ?_, by rw [hp]; exact hE, hb⟩
  · unfold psz
    rw [if_neg (by rw [hp]; exact hn)]
  · show World.ownsRow _ _ _ _ _ _ _
    unfold plist
    rw [if_neg (by rw [hp]; exact hn)]
    exact World.ownsRow_nil _ _ _ _
theorem ghd_le (l : List Int) (h2 : ghd l ≤ l.length) (h : V.put (gid l) = l.take (ghd l)) : ghd l ≤ 4 := by
  have a := congrArg List.length h
  rw [List.length_take, Nat.min_eq_left h2] at a
  have := (V.put_len (gid l)).2
  omega
theorem get3_bad1 (v : Value) (l : List Int) (place : Int) (w : World) (h : Byt w v l) (hv : (V.vget l).2.2 ≠ 0) : Calls Tryd.prog 21 #[v, .int .i64 place] w (GetPost place l w) := by
  have hp : pgt place l = (V.vget l).2.2 := by unfold pgt; rw [if_pos hv]
  obtain ⟨ao, cap, rfl, hc1, hc2⟩ := h.form
  have HV := hide h
  have HP := hide hp
  clear h hp
  generalize hm : (V.vget l).2.2 = m at hv HP
  generalize hn : l.length = n at hc1 HV
  have HM := hide hm
  clear hn hm
  go_enter Tryd.func21, Tryd.ntmps21
  go_wp2_with fail
  refine (vget_fail _ l _ (unhide HV) m (unhide HM) hv).mono ?_
  rintro e w1 ⟨a, b, x, rfl, hi, hb1⟩
  have HB1 := hide hb1
  clear hb1
  go_wp2_with fail
  refine (wrap_use _ m _ (unhide hi)).mono ?_
  rintro e w2 ⟨E, rfl, hE, hb2⟩
  go_wp2
  go_returns
  exact get_post_bad place l w _ m (unhide HP) hv _ hE ((unhide HB1).trans (hb2.mono (unhide HB1).size))
theorem get3_short (v : Value) (l : List Int) (place : Int) (w : World) (h : Byt w v l) (hv : (V.vget l).2.2 = 0) (hs : l.length < ghd l + (gid l).toNat) : Calls Tryd.prog 21 #[v, .int .i64 place] w (GetPost place l w) := by
  have hp : pgt place l = 3 := by unfold pgt; rw [if_neg (by rw [hv]; decide), if_pos hs]
  obtain ⟨hv', h1, h2, h3, h4, h5⟩ := vget_is l h.range hv
  have hQ4 := ghd_le l h2 h5
  clear h5
  obtain ⟨ao, cap, rfl, hc1, hc2⟩ := h.form
  unfold maxLen at hc2
  have HV := hide h
  have HP := hide hp
  clear h hp hv
  obtain ⟨N, hN⟩ : ∃ N : Nat, gid l = N := ⟨(gid l).toNat, by omega⟩
  rw [hN, Int.toNat_natCast] at hs
  rw [hN] at hv' h3 h4
  generalize ghd l = Q at hQ4 hv' h1 h2 hs
  have Hv := hide hv'
  generalize hn : l.length = n at hc1 HV h2 hs
  clear hn hv' hN
  go_enter Tryd.func21, Tryd.ntmps21
  go_wp2_with fail
  refine (vget_good _ l _ (unhide HV) N Q (unhide Hv)).mono ?_
  rintro e w1 ⟨rfl, hb1⟩
  have HB1 := hide hb1
  clear hb1
  go_wp2_with fail
  refine (pfault_use 3 _).mono ?_
  rintro e w2 ⟨E, rfl, hE, hb2⟩
  go_wp2
  go_returns
  exact get_post_bad place l w _ 3 (unhide HP) (by decide) _ hE ((unhide HB1).trans (hb2.mono (unhide HB1).size))
theorem Byt.mid {w : World} {b off n cap : Nat} {l : List Int} (h : Byt w (.slice (some ⟨b, off, none⟩) n cap) l) (p q : Nat) (hq : p + q ≤ n) : Byt w (.slice (if cap = p then some ⟨b, off, none⟩ else some ⟨b, off + p, none⟩) q (cap - p)) ((l.drop p).take q) :=
  (h.drop' p (by omega)).take q (by omega)
set_option maxHeartbeats 4000000 in
theorem get3_read (v : Value) (l : List Int) (place : Int) (w : World) (h : Byt w v l) (hv : (V.vget l).2.2 = 0) (hs : ghd l + (gid l).toNat ≤ l.length) : Calls Tryd.prog 21 #[v, .int .i64 place] w (GetPost place l w) := by
  have hp : pgt place l = rdn place (pbd l) := by unfold pgt; rw [if_neg (by rw [hv]; decide), if_neg (by omega)]
  have hsz : ∀ q, parse (pbd l) = some q → pgt place l = 0 → plist place l = q ∧ psz place l = ((ghd l + (gid l).toNat : Nat) : Int) := fun q hq h0 => by
    unfold plist psz
    rw [if_pos h0, if_pos h0, hq]
    exact ⟨rfl, by omega⟩
  obtain ⟨hv', h1, h2, h3, h4, h5⟩ := vget_is l h.range hv
  have hQ4 := ghd_le l h2 h5
  clear h5
  obtain ⟨b, off, cap, rfl, hc1, hc2⟩ := h.form1 (by omega)
  unfold maxLen at hc2
  have HV := hide h
  have HP := hide hp
  have HSZ := hide hsz
  clear h hp hv hsz
  have hpb : pbd l = (l.drop (ghd l)).take (gid l).toNat := rfl
  obtain ⟨N, hN⟩ : ∃ N : Nat, gid l = N := ⟨(gid l).toNat, by omega⟩
  rw [hN, Int.toNat_natCast] at hs HSZ hpb
  rw [hN] at hv' h3 h4
  generalize ghd l = Q at hQ4 hv' h1 h2 hs HSZ hpb
  generalize pbd l = L at HP HSZ hpb
  have Hv := hide hv'
  generalize hn : l.length = n at hc1 HV h2 hs
  have HPB := hide hpb
  clear hn hv' hN hpb
  by_cases hcQ : cap = Q
  · have e1 : Q = cap := hcQ.symm
    clear hcQ
    subst e1
    have e2 : Q = n := by omega
    subst e2
    obtain rfl : N = 0 := by omega
    have HD : Hid (Byt w (.slice (some ⟨b, off, none⟩) 0 0) L) := by
      show Byt _ _ _
      have := (unhide HV).mid Q 0 (by omega)
      rw [if_pos rfl, Nat.sub_self, ← unhide HPB] at this
      exact this
    go_enter Tryd.func21, Tryd.ntmps21
    go_wp2_with fail
    refine (vget_good _ l _ (unhide HV) 0 Q (unhide Hv)).mono ?_
    rintro e w1 ⟨rfl, hb1⟩
    have HB1 := hide hb1
    clear hb1
    go_wp2_with fail
    refine (read_any _ L place _ ((unhide HD).below (unhide HB1))).mono ?_
    rintro e w2 (⟨q, v2, hpar, hok, rfl, hown, hb2⟩ | ⟨hc, E, rfl, hE, hb2⟩)
    · have HPAR := hide hpar
      have HOK := hide hok
      have HB2 : Hid (Below w.heap.size w w2) := (unhide HB1).trans (hb2.mono (unhide HB1).size)
      have HOWN : Hid (w2.ownsRow w.heap.size 49 4 v2 (min q.length 32) (pcs (q.take 32))) := owns_mono (unhide hown) (unhide HB1).size
      have HRD : Hid (pgt place l = chkP place q) := (unhide HP).trans (rdn_some place L q hpar)
      clear hpar hok hb2 hown
      generalize hk : q.length = k at HOWN
      have HK := hide hk
      clear hk
      rcases Nat.lt_or_ge 32 k with h32 | h32
      · have HC : Hid (pgt place l = 2) := (unhide HRD).trans (chkP_lim place q (unhide HOK) (by rw [unhide HK]; exact h32))
        go_wp2_with fail
        refine (few_bad k _ (by omega)).mono ?_
        rintro e w3 ⟨E, rfl, hE, hb3⟩
        go_wp2
        go_returns
        exact get_post_bad place l w _ 2 (unhide HC) (by decide) _ hE ((unhide HB2).trans (hb3.mono (unhide HB2).size))
      · have HC : Hid (pgt place l = 0) := (unhide HRD).trans (chkP_ok place q (unhide HOK) (by rw [unhide HK]; exact h32))
        have HLS := hide ((unhide HSZ) q (unhide HPAR) (unhide HC))
        go_wp2_with fail
        refine (few_ok k _ (by omega)).mono ?_
        rintro e w3 ⟨rfl, hw⟩
        obtain rfl := hw.symm
        clear hw
        go_wp2
        go_returns
        refine ⟨_, _, by rw [(unhide HLS).2]; exact (by go_num), ?_, by rw [unhide HC]; exact ErrP.nil _, unhide HB2⟩
        show World.ownsRow _ _ _ _ _ _ _
        rw [(unhide HLS).1, unhide HK]
        have := unhide HOWN
        rw [Nat.min_eq_left h32, List.take_of_length_le (by rw [unhide HK]; exact h32)] at this
        exact this
    · have HC : Hid (pgt place l = 1) := (unhide HP).trans hc
      clear hc
      go_wp2
      go_returns
      exact get_post_bad place l w _ 1 (unhide HC) (by decide) _ hE ((unhide HB1).trans (hb2.mono (unhide HB1).size))
  · have HD : Hid (Byt w (.slice (some ⟨b, off + Q, none⟩) N (cap - Q)) L) := by
      show Byt _ _ _
      have := (unhide HV).mid Q N (by omega)
      rw [if_neg hcQ, ← unhide HPB] at this
      exact this
    go_enter Tryd.func21, Tryd.ntmps21
    go_wp2_with fail
    refine (vget_good _ l _ (unhide HV) N Q (unhide Hv)).mono ?_
    rintro e w1 ⟨rfl, hb1⟩
    have HB1 := hide hb1
    clear hb1
    go_wp2_with fail
    refine (read_any _ L place _ ((unhide HD).below (unhide HB1))).mono ?_
    rintro e w2 (⟨q, v2, hpar, hok, rfl, hown, hb2⟩ | ⟨hc, E, rfl, hE, hb2⟩)
    · have HPAR := hide hpar
      have HOK := hide hok
      have HB2 : Hid (Below w.heap.size w w2) := (unhide HB1).trans (hb2.mono (unhide HB1).size)
      have HOWN : Hid (w2.ownsRow w.heap.size 49 4 v2 (min q.length 32) (pcs (q.take 32))) := owns_mono (unhide hown) (unhide HB1).size
      have HRD : Hid (pgt place l = chkP place q) := (unhide HP).trans (rdn_some place L q hpar)
      clear hpar hok hb2 hown
      generalize hk : q.length = k at HOWN
      have HK := hide hk
      clear hk
      rcases Nat.lt_or_ge 32 k with h32 | h32
      · have HC : Hid (pgt place l = 2) := (unhide HRD).trans (chkP_lim place q (unhide HOK) (by rw [unhide HK]; exact h32))
        go_wp2_with fail
        refine (few_bad k _ (by omega)).mono ?_
        rintro e w3 ⟨E, rfl, hE, hb3⟩
        go_wp2
        go_returns
        exact get_post_bad place l w _ 2 (unhide HC) (by decide) _ hE ((unhide HB2).trans (hb3.mono (unhide HB2).size))
      · have HC : Hid (pgt place l = 0) := (unhide HRD).trans (chkP_ok place q (unhide HOK) (by rw [unhide HK]; exact h32))
        have HLS := hide ((unhide HSZ) q (unhide HPAR) (unhide HC))
        go_wp2_with fail
        refine (few_ok k _ (by omega)).mono ?_
        rintro e w3 ⟨rfl, hw⟩
        obtain rfl := hw.symm
        clear hw
        go_wp2
        go_returns
        refine ⟨_, _, by rw [(unhide HLS).2]; exact (by go_num), ?_, by rw [unhide HC]; exact ErrP.nil _, unhide HB2⟩
        show World.ownsRow _ _ _ _ _ _ _
        rw [(unhide HLS).1, unhide HK]
        have := unhide HOWN
        rw [Nat.min_eq_left h32, List.take_of_length_le (by rw [unhide HK]; exact h32)] at this
        exact this
    · have HC : Hid (pgt place l = 1) := (unhide HP).trans hc
      clear hc
      go_wp2
      go_returns
      exact get_post_bad place l w _ 1 (unhide HC) (by decide) _ hE ((unhide HB1).trans (hb2.mono (unhide HB1).size))
theorem get3_any (v : Value) (l : List Int) (place : Int) (w : World) (h : Byt w v l) : Calls Tryd.prog 21 #[v, .int .i64 place] w (GetPost place l w) := by
  by_cases hv : (V.vget l).2.2 = 0
  · rcases Nat.lt_or_ge l.length (ghd l + (gid l).toNat) with hs | hs
    · exact get3_short v l place w h hv hs
    · exact get3_read v l place w h hv hs
  · exact get3_bad1 v l place w h hv
end Go.Proofs.YtpfpollejhdbgaaDoor
