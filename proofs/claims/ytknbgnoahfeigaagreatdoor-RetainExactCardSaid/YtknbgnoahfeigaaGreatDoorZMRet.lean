/- Proved here: contracts of retain's small parts: fault, against, lives, worth; topic.Name and the page's Name at texts of any size; errors.Is at nil. Helper contracts. -/
import Derived.Test.YtknbgnoahfeigaaGreatDoorZMCopy
import Derived.Test.YtknbgnoahfeigaaGreatDoorZQRef2
import Derived.Test.YtknbgnoahfeigaaGreatDoorZKEr2
namespace Go.Proofs.YtknbgnoahfeigaaGreatDoor.M
open Go.RowKit
set_option maxRecDepth 100000

/-- an error of a layer above: the number n with up to three Faults around it -/
def Era (w : World) (v : Value) (n : Int) : Prop := ∃ d, d ≤ 3 ∧ Er w d v n
theorem Era.below {w w' : World} {v : Value} {n : Int} (h : Era w v n) (hb : Below w.heap.size w w') : Era w' v n := by
  obtain ⟨d, hd, h⟩ := h
  exact ⟨d, hd, h.below hb⟩
theorem rfault_any (d : Nat) (hd : d ≤ 2) (v : Value) (n : Int) (w : World) (h : Er w d v n) :
    Calls Tryz.prog 30 #[v] w fun e w' => ∃ x, e = .returned (.iface 76 x) ∧ Hid (Era w' (.iface 76 x) n) ∧ Below w.heap.size w w' := by
  have H := hide h
  obtain ⟨tt, x, rfl⟩ := h.iface
  clear h
  go_enter Tryz.func30, Tryz.ntmps30
  go_wp2
  go_returns
  exact ⟨_, rfl, ⟨d + 1, by omega, _, _, rfl, by simp, (unhide H).below ((Below.refl _ _).alloc (Nat.le_refl _) _)⟩, (Below.refl _ _).alloc (Nat.le_refl _) _⟩
theorem rfault_n (n : Int) (w : World) : Calls Tryz.prog 30 #[.iface 64 (.int .i64 n)] w fun e w' => ∃ x, e = .returned (.iface 76 x) ∧ Hid (Era w' (.iface 76 x) n) ∧ Below w.heap.size w w' := rfault_any 0 (by omega) _ n w rfl
/-- an error of topic, as errors.Is and fault take it -/
theorem er1 {w : World} {x : Value} {n : Int} (h : ErrIs w (.iface 76 x) n) : Er w 1 (.iface 76 x) n := by
  rcases h with ⟨_, h⟩ | ⟨b, h, hc⟩
  · cases h
  · exact ⟨b, _, h, hc, rfl⟩
theorem eqNil (m : Int) (w : World) : (binOp .eql 39 .nilIface (.iface 64 (.int .i64 m))).run Tryz.prog w = .ok (.bool false) w := by kernel_rfl
theorem isnil (m : Int) (w : World) : Calls Tryz.prog 46 #[.nilIface, .iface 64 (.int .i64 m)] w fun e w' => e = .returned (.bool false) ∧ w' = w := by
  have q := eqNil
  go_enter Tryz.func46, Tryz.ntmps46
  go_wp2
  go_ret
  exact ⟨rfl, rfl⟩
theorem ck_size {s : ByteArray} (h : ck s.data.toList = 0) : s.size ≤ 65535 := by
  unfold ck chk at h
  split at h
  · split at h
    · rename_i h2
      simp at h2
      exact h2
    · cases h
  · cases h
abbrev nm (m : Mg) : Bool := isName m.topic.data.toList
theorem isName_size {s : ByteArray} (h : isName s.data.toList = true) : s.size ≤ 65535 := by
  unfold isName at h
  simp only [Bool.and_eq_true, decide_eq_true_eq] at h
  exact ck_size h.1
theorem namey (s : ByteArray) (w : World) (h : isName s.data.toList = true) :
    Calls Tryz.prog 29 #[.string s] w fun e w' => e = .returned .nilIface ∧ Below w.heap.size w w' := name_yes s w (by have := isName_size h; omega) h
set_option maxHeartbeats 1000000 in
theorem namen (s : ByteArray) (w : World) (hs : s.size ≤ 140737488351232) (h : isName s.data.toList = false) :
    Calls Tryz.prog 29 #[.string s] w fun e w' => ∃ x, e = .returned (.iface 76 x) ∧ Hid (Er w' 1 (.iface 76 x) 5) ∧ Below w.heap.size w w' := by
  by_cases h7 : s.size ≤ 70000
  · refine (name_no s w h7 h).mono ?_
    rintro e w' ⟨x, rfl, hx, hb⟩
    exact ⟨x, rfl, er1 (unhide hx), hb⟩
  · have h1 : ck s.data.toList ≠ 0 := fun e => h7 (by have := ck_size e; omega)
    have HC : Hid (∀ w, Calls Tryz.prog 47 #[.string s] w fun e w' => ∃ b n, e = .returned (.iface 76 (.pointer (some ⟨b, 0, none⟩))) ∧ Hid (Er w' 1 (.iface 76 (.pointer (some ⟨b, 0, none⟩))) n ∧ (n = 1 ∨ n = 2)) ∧ Below w.heap.size w w') := by
      intro w
      refine (check_bad s (chk (sb s)) w (by omega) rfl h1).mono ?_
      rintro e w' ⟨rfl, rfl⟩
      refine ⟨_, chk (sb s), rfl, ⟨⟨_, _, rfl, by simp, rfl⟩, ?_⟩, fault_below _ w⟩
      rcases chk_cases (sb s) with h0 | h0
      · exact absurd h0 h1
      · exact h0
    clear h1 h h7
    go_enter Tryz.func29, Tryz.ntmps29
    go_wp2_with (first
      | (go_at_call 47; refine ((unhide HC) _).mono ?_; rintro e w1 ⟨b, n, rfl, her, hb1⟩)
      | (go_at_call 48; refine (Go.Proofs.YtknbgnoahfeigaaGreatDoor.tfault 1 (by decide) _ n _ (unhide her).1 (unhide her).2).mono ?_; rintro e w3 ⟨x, rfl, hx, hb3⟩))
    go_ret
    exact ⟨_, rfl, er1 (unhide hx), hb1.trans (hb3.mono hb1.size)⟩
set_option maxHeartbeats 1000000 in
theorem rname_all (s : ByteArray) (w : World) (hs : s.size ≤ 140737488351232) :
    Calls Tryz.prog 21 #[.string s] w fun e w' => e = .returned (.bool (isName s.data.toList)) ∧ Below w.heap.size w w' := by
  by_cases h7 : s.size ≤ 70000
  · exact rname_any s w h7
  · have h1 : ck s.data.toList ≠ 0 := fun e => h7 (by have := ck_size e; omega)
    have h2 : isName s.data.toList = false := by unfold isName; rw [decide_eq_false h1]; rfl
    rw [h2]
    have HC := hide (fun w => rcheck_any s w (by omega))
    have hcb : (chk (sb s) == 0) = false := beq_eq_false_iff_ne.2 h1
    have he : s.toList.isEmpty = false := by
      cases hx : s.toList.isEmpty
      · rfl
      · have h0 := empty_of hx
        have h3 := size_len s
        rw [h0] at h3
        simp at h3
        omega
    generalize chk (sb s) = c at HC hcb
    clear h1 h2
    go_enter Tryz.func21, Tryz.ntmps21
    go_wp2_with (first
      | (go_at_call 26; refine ((unhide HC) _).mono ?_; rintro e w1 ⟨rfl, hb1⟩))
    go_ret
    exact ⟨rfl, hb1⟩
set_option maxHeartbeats 1000000 in
theorem against_any (m : Mg) (s : Value) (t : ByteArray) (w : World) (hs : ∃ ao n c, s = .slice ao n c) :
    Calls Tryz.prog 32 #[mval m s, .string t] w fun e w' => e = .returned (.int .i64 (Lib.compareBytes m.topic.data.toList t.data.toList)) ∧ Below w.heap.size w w' := by
  obtain ⟨ao, n, c, rfl⟩ := hs
  obtain ⟨tp, p, q, r, f, u, l⟩ := m
  dsimp only
  go_enter Tryz.func32, Tryz.ntmps32
  go_wp2_with (go_at_call 51; refine (Tryz.strings_Compare tp t _).mono ?_; rintro e w1 ⟨rfl, rfl⟩)
  go_ret
  exact ⟨rfl, by go_grown⟩
/-- a message has not expired -/
def liv (now : Int) (m : Mg) : Bool := decide (m.untl = 0) || decide (now < m.untl)
set_option maxHeartbeats 1000000 in
theorem lives_any (m : Mg) (ao : Option Addr) (n c : Nat) (now : Int) (w : World) :
    Calls Tryz.prog 38 #[mval m (.slice ao n c), .int .i64 now] w fun e w' => e = .returned (.bool (liv now m)) ∧ Below w.heap.size w w' := by
  obtain ⟨tp, p, q, r, f, u, l⟩ := m
  unfold liv
  dsimp only
  by_cases h0 : u = 0
  · go_enter Tryz.func38, Tryz.ntmps38
    go_wp2
    go_ret
    exact ⟨by simp [h0], by go_grown⟩
  · go_enter Tryz.func38, Tryz.ntmps38
    go_wp2
    go_ret
    exact ⟨by simp [h0], by go_grown⟩
set_option maxHeartbeats 1000000 in
theorem rlive_any (m : Mg) (ao : Option Addr) (n c : Nat) (now : Int) (w : World) :
    Calls Tryz.prog 22 #[mval m (.slice ao n c), .int .i64 now] w fun e w' => e = .returned (.bool (liv now m)) ∧ Below w.heap.size w w' := by
  obtain ⟨tp, p, q, r, f, u, l⟩ := m
  unfold liv
  dsimp only
  by_cases h0 : u = 0
  · go_enter Tryz.func22, Tryz.ntmps22
    go_wp2
    go_ret
    exact ⟨by simp [h0], by go_grown⟩
  · go_enter Tryz.func22, Tryz.ntmps22
    go_wp2
    go_ret
    exact ⟨by simp [h0], by go_grown⟩
/-- what is kept of a message: nothing without a payload -/
def wrt (m : Mg) : List Mg := if m.payload.toList.isEmpty then [] else [m]
set_option maxHeartbeats 1000000 in
theorem worth_any (m : Mg) (ao : Option Addr) (c : Nat) (w : World) (hp : Pok w ao c m.props) :
    Calls Tryz.prog 34 #[mval m (.slice ao m.props.length c)] w fun e w' => ∃ v, e = .returned v ∧ Hid (Mgs w' v (wrt m)) ∧ Below w.heap.size w w' := by
  have HP := hide hp
  clear hp
  cases hx : m.payload.toList.isEmpty
  · have HW : Hid (wrt m = [m]) := by show _ = _; unfold wrt; rw [hx]; rfl
    go_enter Tryz.func34, Tryz.ntmps34
    go_wp2
    go_ret
    refine ⟨_, rfl, ?_, by go_grown⟩
    show Mgs _ _ _
    rw [unhide HW]
    refine ⟨_, 1, rfl, ⟨Nat.le_refl _, by unfold maxLen; omega⟩, .inr ⟨_, _, rfl, fun k hk => ?_⟩⟩
    have hk0 : k = 0 := by simp at hk; omega
    subst hk0
    exact ⟨ao, c, ⟨by simp, by simp, by simp, by simp, by simp, by simp, by simp⟩, (unhide HP).below (by go_grown)⟩
  · have HW : Hid (wrt m = []) := by show _ = _; unfold wrt; rw [hx]; rfl
    go_enter Tryz.func34, Tryz.ntmps34
    go_wp2
    go_ret
    refine ⟨_, rfl, ?_, by go_grown⟩
    show Mgs _ _ _
    rw [unhide HW]
    exact Mgs.nil _
end Go.Proofs.YtknbgnoahfeigaaGreatDoor.M
