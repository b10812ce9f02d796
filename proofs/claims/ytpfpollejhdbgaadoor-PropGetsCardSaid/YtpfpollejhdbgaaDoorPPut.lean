/- Proved here: prop.Check and prop.Put at any properties read from memory, at most 200: the error's number (chkP), and the bytes (pbs). Helper contracts. -/
import Derived.Test.YtpfpollejhdbgaaDoorPTell
namespace Go.Proofs.YtpfpollejhdbgaaDoor
open Go.RowKit
set_option maxRecDepth 100000

/-- the value v reads in the world w as the properties l -/
def Prp (w : World) (v : Value) (l : List Pr) : Prop := ∃ ao cap, v = .slice ao l.length cap ∧ (l = [] ∨ ∃ b off, ao = some ⟨b, off, none⟩ ∧ PrAt w b off l)
theorem Prp.below {w w' : World} {v : Value} {l : List Pr} (h : Prp w v l) (hb : Below w.heap.size w w') : Prp w' v l := by
  obtain ⟨ao, cap, h1, h2⟩ := h
  refine ⟨ao, cap, h1, ?_⟩
  rcases h2 with h2 | ⟨b, off, e, hc⟩
  · exact .inl h2
  · exact .inr ⟨b, off, e, hc.below hb⟩
theorem Prp.form {w : World} {v : Value} {l : List Pr} (h : Prp w v l) : ∃ ao cap, v = .slice ao l.length cap := by
  obtain ⟨ao, cap, h1, _⟩ := h
  exact ⟨ao, cap, h1⟩
theorem tell_nil (ao : Option Addr) (cap : Nat) (place : Int) (w : World) : Calls Tryd.prog 29 #[.slice ao 0 cap, .int .i64 place] w (TellPost place [] w) := by
  go_enter Tryd.func29, Tryd.ntmps29
  iterate 19 go_step
  refine wpList_value rfl (row_build _ _ _ _ _ _ place rfl _) ?_
  simp only [Act.put, List.setIfInBounds_toArray, List.set_cons_zero, List.set_cons_succ]
  refine wpList_value rfl (row_alloc _ _ _ _ _ _) ?_
  simp only [Act.put, List.setIfInBounds_toArray, List.set_cons_zero, List.set_cons_succ]
  refine wpList_skip rfl (row_store _ _ _ _ _ _ _ place _ rfl rfl) ?_
  simp only [Act.put]
  go_wp2
  refine wp_loop_rounds 1 ?_
  rw [rounds_succ]
  go_wp2
  go_ret3
  exact .inl ⟨okTo_zero _ _, _, rfl, ⟨none, 0, rfl, ⟨Nat.le_refl _, by unfold maxLen; omega⟩, fun j => by simp [body], .inl rfl⟩, (Below.refl _ _).alloc (Nat.le_refl _) _⟩
theorem tell_any (v : Value) (l : List Pr) (place : Int) (w : World) (h : Prp w v l) (h200 : l.length ≤ 200) (hsm : Small l) : Calls Tryd.prog 29 #[v, .int .i64 place] w (TellPost place l w) := by
  obtain ⟨ao, cap, rfl, hc⟩ := h
  rcases hc with rfl | ⟨b, off, rfl, hc⟩
  · exact tell_nil ao cap place w
  · exact tell_core b off cap l _ place w rfl h200 hsm hc
theorem check_any (v : Value) (l : List Pr) (place : Int) (w : World) (h : Prp w v l) (h200 : l.length ≤ 200) (hsm : Small l) :
    Calls Tryd.prog 16 #[v, .int .i64 place] w fun e w' => ∃ E, e = .returned E ∧ Hid (ErrP w' E (chkP place l)) ∧ Below w.heap.size w w' := by
  have HT := hide (tell_any v l place w h h200 hsm)
  obtain ⟨ao, cap, hv⟩ := h.form
  subst hv
  clear h hsm
  generalize hn : l.length = len at h200 HT
  have HN := hide hn
  clear hn
  go_enter Tryd.func16, Tryd.ntmps16
  go_wp2_with fail
  refine (unhide HT).mono ?_
  rintro e w1 (⟨hok, v1, rfl, hy, hb1⟩ | ⟨hc, E, rfl, hE, hb1⟩)
  · have HOK := hide hok
    clear hok
    have HB1 := hide hb1
    clear hb1
    rcases Nat.lt_or_ge 32 len with h32 | h32
    · have HC : Hid (chkP place l = 2) := chkP_lim place l (unhide HOK) (by rw [unhide HN]; exact h32)
      go_wp2_with fail
      refine (few_bad len _ (by omega)).mono ?_
      rintro e w2 ⟨E, rfl, hE, hb2⟩
      go_wp2
      go_ret
      exact ⟨_, rfl, by rw [unhide HC]; exact hE, (unhide HB1).trans (hb2.mono (unhide HB1).size)⟩
    · have HC : Hid (chkP place l = 0) := chkP_ok place l (unhide HOK) (by rw [unhide HN]; exact h32)
      go_wp2_with fail
      refine (few_ok len _ (by omega)).mono ?_
      rintro e w2 ⟨rfl, hw⟩
      obtain rfl := hw.symm
      clear hw
      go_wp2
      go_ret
      exact ⟨_, rfl, by rw [unhide HC]; exact ErrP.nil _, unhide HB1⟩
  · have HC := hide hc
    clear hc
    go_wp2
    go_ret
    exact ⟨_, rfl, by rw [unhide HC]; exact hE, hb1⟩
/-- Put's bytes: those of properties that may stand, else none -/
def pbz (place : Int) (l : List Pr) : List Int := if chkP place l = 0 then pbs l else []
set_option maxHeartbeats 1000000 in
theorem put_any (v : Value) (l : List Pr) (place : Int) (w : World) (h : Prp w v l) (h200 : l.length ≤ 200) (hsm : Small l) :
    Calls Tryd.prog 14 #[v, .int .i64 place] w fun e w' => ∃ v E, e = .returned (.tuple #[v, E]) ∧ Hid (Byt w' v (pbz place l)) ∧ Hid (ErrP w' E (chkP place l)) ∧ Below w.heap.size w w' := by
  have HT := hide (tell_any v l place w h h200 hsm)
  obtain ⟨ao, cap, hv⟩ := h.form
  subst hv
  clear h hsm
  generalize hn : l.length = len at h200 HT
  have HN := hide hn
  clear hn
  have hbad : ∀ (W : World), chkP place l ≠ 0 → Byt W (.slice none 0 0) (pbz place l) := fun W hc => by
    unfold pbz
    rw [if_neg hc]
    exact ⟨none, 0, rfl, ⟨Nat.le_refl _, by unfold maxLen; omega⟩, fun j => by simp, .inl rfl⟩
  have HBAD := hide hbad
  clear hbad
  go_enter Tryd.func14, Tryd.ntmps14
  go_wp2_with fail
  refine (unhide HT).mono ?_
  rintro e w1 (⟨hok, v1, rfl, hy, hb1⟩ | ⟨hc, E, rfl, hE, hb1⟩)
  · have hle := body_le l place len (by rw [unhide HN]; exact Nat.le_refl _) (by rw [unhide HN] at hok; exact hok)
    rw [List.take_of_length_le (Nat.le_of_eq (unhide HN))] at hle
    have HOK := hide hok
    have HB1 := hide hb1
    clear hb1 hok
    generalize hS : (body l).length = SZ at hle
    have HS := hide hS
    clear hS
    go_wp2_with fail
    refine (vput_use SZ _ (by omega) (by omega)).mono ?_
    rintro e w2 ⟨v2, rfl, hown2, hy2, hb2⟩
    have HB2 : Hid (Below w.heap.size w w2) := (unhide HB1).trans (hb2.mono (unhide HB1).size)
    have HO2 : Hid (w2.ownsRow w.heap.size 5 1 v2 (V.put SZ).length ((V.put SZ).map (Value.int .u8))) := owns_mono (unhide hown2) (unhide HB1).size
    have HY1 : Hid (Byt w2 v1 (body (l.take 32))) := (unhide hy).below hb2
    clear hb2 hown2 hy HB1
    rcases Nat.lt_or_ge 32 len with h32 | h32
    · have HC : Hid (chkP place l = 2) := chkP_lim place l (unhide HOK) (by rw [unhide HN]; exact h32)
      go_wp2_with fail
      refine (few_bad len _ (by omega)).mono ?_
      rintro e w3 ⟨E, rfl, hE, hb3⟩
      go_wp2
      go_ret2
      exact ⟨_, _, rfl, (unhide HBAD) _ (by rw [unhide HC]; omega), by rw [unhide HC]; exact hE, (unhide HB2).trans (hb3.mono (unhide HB2).size)⟩
    · have HC : Hid (chkP place l = 0) := chkP_ok place l (unhide HOK) (by rw [unhide HN]; exact h32)
      have HZ : Hid (pbz place l = V.put SZ ++ body l) := by show pbz _ _ = _; unfold pbz pbs; rw [if_pos (unhide HC), unhide HS]
      have HL := hide (V.put_len SZ)
      have HT32 : Hid (l.take 32 = l) := List.take_of_length_le (by rw [unhide HN]; exact h32)
      rw [unhide HT32] at HY1
      go_wp2_with fail
      refine (few_ok len _ (by omega)).mono ?_
      rintro e w3 ⟨rfl, hw⟩
      obtain rfl := hw.symm
      clear hw
      go_wp2_with (first
        | (at_builtin; refine wpList_append_byt _ rfl _ _ rfl w.heap.size _ (V.put SZ).length (V.put SZ) rfl (unhide HO2) v1 (body l) rfl (unhide HY1) (by have := unhide HL; have := unhide HS; omega) (unhide HB2).size ?_)
        | go_in)
      intro v4 w4 hown4 hgrow4
      have HB4 : Hid (Below w.heap.size w w4) := (unhide HB2).grown hgrow4 (unhide HB2).size (fun g hg => ((unhide HO2).lt g hg).1)
      have HY4 : Hid (Byt w4 v4 (pbz place l)) := by
        show Byt _ _ _
        rw [unhide HZ]
        exact byt_of_owns (by rw [List.map_append]; exact hown4) (range_app (unhide hy2).range (unhide HY1).range)
      clear hown4 hgrow4
      go_wp2
      go_ret2
      exact ⟨_, _, rfl, HY4, by rw [unhide HC]; exact ErrP.nil _, unhide HB4⟩
  · have HC := hide hc
    clear hc
    go_wp2
    go_ret2
    exact ⟨_, _, rfl, (unhide HBAD) _ (by rw [unhide HC]; omega), by rw [unhide HC]; exact hE, hb1⟩
end Go.Proofs.YtpfpollejhdbgaaDoor
