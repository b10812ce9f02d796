/- Proved here: rpc's reader of bytes: fail, next, number, flag, text: what they tell, and what is left. Helper contracts. -/
import Derived.Test.YtmmhdhpocjnlbaaGreatDoorZJPl
import Derived.Test.YtmmhdhpocjnlbaaGreatDoorZECi
import Derived.Test.YtmmhdhpocjnlbaaGreatDoorZUCv
import Derived.Test.YtmmhdhpocjnlbaaGreatDoorZTBits
namespace Go.Proofs.YtmmhdhpocjnlbaaGreatDoor.Jr
open Go.RowKit Nt Et Qu
set_option maxRecDepth 100000

theorem byt_fr {F : Nat → Prop} {w w' : World} {v : Value} {l : List Int} (h : Byt w v l) (hf : Fr F w w') (hn : l = [] ∨ ∀ a n c, v = .slice (some a) n c → ¬ F a.block) : Byt w' v l := by
  obtain ⟨ao, cap, h1, h2, h3, h4⟩ := h
  refine ⟨ao, cap, h1, h2, h3, ?_⟩
  rcases h4 with h4 | ⟨b, off, e, hc⟩
  · exact .inl h4
  · rcases hn with hn | hn
    · exact .inl hn
    · exact .inr ⟨b, off, e, fun j hj => hf.cell (hn ⟨b, off, none⟩ _ _ (by rw [h1, e])) (hc j hj)⟩
/-- bytes that lie in a block below r -/
def ByN (w : World) (r : Nat) (v : Value) (l : List Int) : Prop := Byt w v l ∧ (l = [] ∨ ∀ a n c, v = .slice (some a) n c → a.block < r)
theorem ByN.fr {F : Nat → Prop} {w w' : World} {r : Nat} {v : Value} {l : List Int} (h : ByN w r v l) (hf : Fr F w w') (hF : ∀ k, k < r → ¬ F k) : ByN w' r v l :=
  ⟨byt_fr h.1 hf (h.2.imp id (fun h a n c e => hF _ (h a n c e))), h.2⟩
theorem ByN.of {w : World} {v : Value} {l : List Int} (h : Byt w v l) : ByN w w.heap.size v l := by
  refine ⟨h, ?_⟩
  obtain ⟨ao, cap, h1, h2, h3, h4⟩ := h
  rcases h4 with h4 | ⟨b, off, e, hc⟩
  · exact .inl h4
  · by_cases hl : l = []
    · exact .inl hl
    · refine .inr fun a n c ev => ?_
      have hp : 0 < l.length := List.length_pos_iff.2 hl
      have := cell_lt (hc 0 hp)
      rw [h1, e] at ev
      simp only [Value.slice.injEq, Option.some.injEq] at ev
      rw [← ev.1]
      exact this
theorem byt_hi {w : World} {ao : Option Addr} {n cap : Nat} {l : List Int} (h : Byt w (.slice ao n cap) l) (k : Nat) (hk : k ≤ n) : Byt w (.slice (hiA ao 1 cap k) (n - k) (cap - k)) (l.drop k) := by
  obtain ⟨ao', cap', e, ⟨h1, h2⟩, hr, hcase⟩ := h
  simp only [Value.slice.injEq] at e
  obtain ⟨rfl, rfl, rfl⟩ := e
  refine ⟨_, _, by rw [List.length_drop], ⟨by rw [List.length_drop]; omega, by omega⟩, ?_, ?_⟩
  · intro j
    rw [List.getD_eq_getElem?_getD, List.getElem?_drop, ← List.getD_eq_getElem?_getD]
    exact hr _
  · by_cases hc : cap = k
    · exact .inl (List.drop_of_length_le (by omega))
    · rcases hcase with rfl | ⟨b, off, rfl, hcc⟩
      · exact .inl (by simp)
      · refine .inr ⟨b, off + k, by unfold hiA; rw [if_neg hc]; simp [Addr.add], fun j hj => ?_⟩
        rw [List.length_drop] at hj
        rw [Nat.add_assoc, hcc (k + j) (by omega), List.getD_eq_getElem?_getD, List.getD_eq_getElem?_getD, List.getElem?_drop]
theorem ByN.hi {w : World} {r : Nat} {ao : Option Addr} {n cap : Nat} {l : List Int} (h : ByN w r (.slice ao n cap) l) (k : Nat) (hk : k ≤ n) : ByN w r (.slice (hiA ao 1 cap k) (n - k) (cap - k)) (l.drop k) := by
  refine ⟨byt_hi h.1 k hk, ?_⟩
  rcases h.2 with rfl | h2
  · exact .inl (by simp)
  · refine .inr fun a n' c e => ?_
    simp only [Value.slice.injEq] at e
    have e1 := e.1
    unfold hiA at e1
    split at e1
    · exact h2 a _ _ (by rw [e1])
    · cases ao with
      | none => cases e1
      | some b =>
        have := Option.some.inj e1
        have hb := h2 b _ _ rfl
        rw [← this]
        unfold Addr.add
        split <;> exact hb
theorem ByN.lo {w : World} {r : Nat} {ao : Option Addr} {n cap : Nat} {l : List Int} (h : ByN w r (.slice ao n cap) l) (k : Nat) (hk : k ≤ n) : ByN w r (.slice ao k cap) (l.take k) := by
  refine ⟨h.1.take k hk, ?_⟩
  rcases h.2 with rfl | h2
  · exact .inl (by simp)
  · refine .inr fun a n' c e => ?_
    simp only [Value.slice.injEq] at e
    exact h2 a _ _ (by rw [e.1])
abbrev errF : Value := .iface 61 (.int .i64 1)
/-- the reader in block r: what is left to read, or an error -/
def RdAt (w : World) (r : Nat) (s : St) : Prop := ∃ rv ev, Bx w r [rv, ev] 68 ∧ ((s = none ∧ rv = .slice none 0 0 ∧ ev = errF) ∨ ∃ l, s = some l ∧ ByN w r rv l ∧ ev = .nilIface)
theorem RdAt.fr {F : Nat → Prop} {w w' : World} {r : Nat} {s : St} (h : RdAt w r s) (hf : Fr F w w') (hF : ∀ k, k ≤ r → ¬ F k) : RdAt w' r s := by
  obtain ⟨rv, ev, hb, hc⟩ := h
  refine ⟨rv, ev, hb.fr hf (hF r (Nat.le_refl _)), ?_⟩
  rcases hc with hc | ⟨l, e, hn, e2⟩
  · exact .inl hc
  · exact .inr ⟨l, e, hn.fr hf (fun k hk => hF k (Nat.le_of_lt hk)), e2⟩
theorem RdAt.r8 {w : World} {r : Nat} {s : St} (h : RdAt w r s) : RS s := by
  obtain ⟨rv, ev, hb, hc⟩ := h
  rcases hc with ⟨rfl, _⟩ | ⟨l, rfl, hn, _⟩
  · intro l e; cases e
  · intro l' e; cases e; exact R8.of hn.1.range

theorem fail_any (r : Nat) (x y : Value) (w : World) (h : Bx w r [x, y] 68) :
    Calls Tryz.prog 72 #[.pointer (some ⟨r, 0, none⟩)] w fun e w' => e = .returned (.tuple #[]) ∧ Hid (Bx w' r [.slice none 0 0, errF] 68) ∧ Hid (Fr (fun k => k = r) w w') := by
  have c0 := h.cell 0 x rfl
  have c1 := h.cell 1 y rfl
  have f0 := h.frz 0
  have f1 := h.frz 1
  have HBX : Hid (Bx ((w.setCell ⟨r, 0, none⟩ (.slice none 0 0)).setCell ⟨r, 1, none⟩ errF) r [.slice none 0 0, errF] 68) := (h.set 0 _ (by simp)).set 1 _ (by simp)
  have HFR : Hid (Fr (fun k => k = r) w ((w.setCell ⟨r, 0, none⟩ (.slice none 0 0)).setCell ⟨r, 1, none⟩ errF)) := Fr.trans (set_fr rfl) (set_fr rfl)
  clear h
  go_enter Tryz.func72, Tryz.ntmps72
  go_wp2
  go_end0
  exact ⟨rfl, unhide HBX, unhide HFR⟩
/-- what next tells -/
def NxR (r n : Nat) (s : St) (e : Ending) (w w' : World) : Prop := ∃ v, e = .returned v ∧ Hid (Byt w' v (nx n s).1) ∧ Hid (RdAt w' r (nx n s).2) ∧ Hid (Fr (fun k => k = r) w w')
theorem byt_nil (w : World) : Byt w (.slice none 0 0) [] := ⟨none, 0, rfl, ⟨by simp, by simp⟩, by intro j; simp, .inl rfl⟩
set_option maxHeartbeats 2000000 in
theorem next_any (r n : Nat) (s : St) (w : World) (hn : n ≤ 1099511627776) (h : RdAt w r s) :
    Calls Tryz.prog 71 #[.pointer (some ⟨r, 0, none⟩), .int .i64 (n : Int)] w fun e w' => NxR r n s e w w' := by
  obtain ⟨rv, ev, hb, hc⟩ := h
  have c0 := hb.cell 0 rv rfl
  have f0 := hb.frz 0
  have HBX := hide hb
  have fl : ∀ {ln : Nat} {ao cap}, rv = .slice ao ln cap → ln < n → (nx n s) = ([], none) → Calls Tryz.prog 71 #[.pointer (some ⟨r, 0, none⟩), .int .i64 (n : Int)] w fun e w' => NxR r n s e w w' := by
    intro ln ao cap erv hlt hnx
    subst erv
    have HNX := hide hnx
    have hlt' : (ln : Int) < (n : Int) := by omega
    clear hc hb hnx
    go_enter Tryz.func71, Tryz.ntmps71
    go_wp2_with fail
    refine (fail_any r _ _ _ (unhide HBX)).mono ?_
    rintro e w1 ⟨rfl, HB1, HF1⟩
    clear c0 f0
    go_wp2
    go_ret
    refine ⟨_, rfl, ?_, ?_, HF1⟩
    · rw [unhide HNX]; exact byt_nil _
    · rw [unhide HNX]; exact ⟨_, _, unhide HB1, .inl ⟨rfl, rfl, rfl⟩⟩
  have ok : ∀ {ln cap : Nat} {ao : Option Addr} {x y : List Int} {z : St}, rv = .slice ao ln cap → n ≤ ln → ln ≤ cap → (nx n s) = (x, z) → Byt w (.slice ao n cap) x → (∀ w', Fr (fun k => k = r) w w' → Bx w' r [.slice (hiA ao 1 cap n) (ln - n) (cap - n), ev] 68 → Byt w' (.slice ao n cap) x ∧ RdAt w' r z) → Calls Tryz.prog 71 #[.pointer (some ⟨r, 0, none⟩), .int .i64 (n : Int)] w fun e w' => NxR r n s e w w' := by
    intro ln cap ao x y z erv hle hlc hnx hx hrd
    subst erv
    have HNX := hide hnx
    have hle' : ¬ (ln : Int) < (n : Int) := by omega
    have hnc : n ≤ cap := by omega
    have HFR : Hid (Fr (fun k => k = r) w (w.setCell ⟨r, 0, none⟩ (.slice (hiA ao 1 cap n) (ln - n) (cap - n)))) := set_fr rfl
    have HEND := hide (hrd _ (unhide HFR) ((unhide HBX).set 0 _ (by simp)))
    clear hc hb hnx hx hrd fl
    unfold hiA at HFR HEND
    by_cases hcn : cap = n
    · rw [if_pos hcn] at HFR HEND
      obtain rfl : n = cap := hcn.symm
      obtain rfl : n = ln := by omega
      rw [Nat.sub_self] at HFR HEND
      clear hcn
      go_enter Tryz.func71, Tryz.ntmps71
      go_wp2
      go_ret
      refine ⟨_, rfl, ?_, ?_, HFR⟩
      · rw [unhide HNX]; exact (unhide HEND).1
      · rw [unhide HNX]; exact (unhide HEND).2
    · rw [if_neg hcn, Nat.mul_one] at HFR HEND
      go_enter Tryz.func71, Tryz.ntmps71
      go_wp2
      go_ret
      refine ⟨_, rfl, ?_, ?_, HFR⟩
      · rw [unhide HNX]; exact (unhide HEND).1
      · rw [unhide HNX]; exact (unhide HEND).2
  rcases hc with ⟨rfl, rfl, rfl⟩ | ⟨l, rfl, hl, rfl⟩
  · by_cases h0 : 0 < n
    · exact fl rfl h0 rfl
    · obtain rfl : n = 0 := by omega
      exact ok (y := []) rfl (Nat.le_refl _) (Nat.le_refl _) (nx_none 0) (byt_nil _) (fun w' hf hb' => ⟨byt_nil _, _, _, hb', .inl ⟨rfl, rfl, rfl⟩⟩)
  · obtain ⟨ao, cap, rfl, hcap, hmx⟩ := hl.1.form
    by_cases h0 : l.length < n
    · exact fl rfl h0 (by unfold nx; dsimp only; rw [if_neg (by omega)])
    · exact ok (y := []) rfl (by omega) hcap (by unfold nx; dsimp only; rw [if_pos (by omega)]) (hl.1.take n (by omega)) (fun w' hf hb' => ⟨((hl.lo n (by omega)).fr hf (fun k hk e => by omega)).1, _, _, hb', .inr ⟨_, rfl, (hl.hi n (by omega)).fr hf (fun k hk e => by omega), rfl⟩⟩)
theorem take_snocJ (l : List Int) (k : Nat) (h : k < l.length) : l.take (k + 1) = l.take k ++ [l.getD k 0] := by
  rw [List.take_succ_eq_append_getElem h, List.getD_eq_getElem?_getD, List.getElem?_eq_getElem h]; rfl
theorem nm_snoc (l : List Int) (c : Int) : nm (l ++ [c]) = nm l * 256 + c := by unfold nm; rw [List.foldl_append]; rfl
theorem nm_from (l : List Int) : ∀ (a : Int) (k : Nat), 0 ≤ a → a < 256 ^ k → R8 l → 0 ≤ l.foldl (fun n c => n * 256 + c) a ∧ l.foldl (fun n c => n * 256 + c) a < 256 ^ (k + l.length) := by
  induction l with
  | nil => intro a k h0 h1 _; exact ⟨h0, h1⟩
  | cons c r ih =>
    intro a k h0 h1 h
    have hc := h c (by simp)
    have := ih (a * 256 + c) (k + 1) (by omega) (by rw [Int.pow_succ]; omega) (fun x hx => h x (by simp [hx]))
    rw [show k + (c :: r).length = k + 1 + r.length by simp; omega]
    exact this
theorem nm_lt (l : List Int) (h : R8 l) : 0 ≤ nm l ∧ nm l < 256 ^ l.length := by
  have := nm_from l 0 0 (by decide) (by decide) h
  rw [Nat.zero_add] at this
  exact this
set_option maxHeartbeats 2000000 in
theorem number_core (b off cap n : Nat) (l : List Int) (w : World) (hl : l.length = n) (h5 : n ≤ 5) (hr : ∀ j, 0 ≤ l.getD j 0 ∧ l.getD j 0 ≤ 255) (hc : ∀ j, j < n → w.cell? ⟨b, off + j, none⟩ = some (.int .u8 (l.getD j 0))) :
    Calls Tryz.prog 70 #[.slice (some ⟨b, off, none⟩) n cap] w fun e w' => e = .returned (.int .i64 (nm l)) ∧ w' = w := by
  have HC := hide hc
  have HL := hide hl
  have HR := hide (R8.of hr)
  clear hc hl hr
  go_enter Tryz.func70, Tryz.ntmps70
  go_wp2
  go_loopw [3, 8] (fun m i wr => ∃ k : Nat, k ≤ n ∧ i = .int .i64 k ∧ m = .int .i64 (nm (l.take k)) ∧ wr = w) (fun _ i _ => n - (intOf i).toNat)
  case atStart => exact ⟨0, Nat.zero_le _, rfl, rfl, rfl⟩
  case round =>
    obtain ⟨k, hk, rfl, rfl, rfl⟩ := hrel
    by_cases hlt : k < n
    · have c0 := (unhide HC) k hlt
      have HS : Hid (nm (l.take (k + 1)) = nm (l.take k) * 256 + l.getD k 0) := by show _ = _; rw [take_snocJ l k (by rw [unhide HL]; exact hlt), nm_snoc]
      have hx := (unhide HR).get k
      have hm : 0 ≤ nm (l.take k) ∧ nm (l.take k) < 4294967296 := by
        have h1 := nm_lt (l.take k) (fun x hx => unhide HR x (List.mem_of_mem_take hx))
        rw [List.length_take, unhide HL, Nat.min_eq_left hk] at h1
        have h2 : (256 : Int) ^ k ≤ 256 ^ 4 := by
          have : k = 0 ∨ k = 1 ∨ k = 2 ∨ k = 3 ∨ k = 4 := by omega
          rcases this with rfl | rfl | rfl | rfl | rfl <;> decide
        refine ⟨h1.1, ?_⟩
        have : (256 : Int) ^ 4 = 4294967296 := by decide
        omega
      generalize l.getD k 0 = x at c0 HS hx
      generalize nm (l.take k) = m at HS hm
      have hw : IntKind.i64.wrap (m * 256) = m * 256 := by rw [IntKind.wrap_i64]; omega
      have hw2 : wrap64 (m * 256) = m * 256 := by unfold wrap64; omega
      have hx64 : wrap64 x = x := by unfold wrap64; omega
      have hor : bits .or .i64 (m * 256) x = m * 256 + x := or_i64 _ _ 8 (by omega) (by omega) (by omega) (by omega) (by omega) (by omega)
      go_wp2
      go_roundw
      case rel => exact ⟨k + 1, by omega, by go_num, by rw [unhide HS], by first | rfl | trivial⟩
      case measure => simp [intOf]; omega
    · have HE : Hid (nm (l.take k) = nm l) := by show _ = _; rw [List.take_of_length_le (by rw [unhide HL]; omega)]
      have hlt' : ¬ (k : Int) < (n : Int) := by omega
      generalize nm (l.take k) = m at HE
      go_wp2
      go_ret
      exact ⟨by rw [unhide HE]; rfl, rfl⟩
theorem number_nil (ao : Option Addr) (cap : Nat) (w : World) : Calls Tryz.prog 70 #[.slice ao 0 cap] w fun e w' => e = .returned (.int .i64 0) ∧ w' = w := by
  go_enter Tryz.func70, Tryz.ntmps70
  go_wp2
  refine wp_loop_rounds 1 ?_
  rw [rounds_succ]
  go_wp2
  go_ret
  exact ⟨rfl, rfl⟩
theorem number_any (v : Value) (l : List Int) (w : World) (h : Byt w v l) (h5 : l.length ≤ 5) :
    Calls Tryz.prog 70 #[v] w fun e w' => e = .returned (.int .i64 (nm l)) ∧ w' = w := by
  obtain ⟨ao, cap, rfl, _, hr, hcase⟩ := h
  rcases hcase with rfl | ⟨b, off, rfl, hc⟩
  · exact number_nil ao cap w
  · exact number_core b off cap _ l w rfl h5 hr hc
theorem pow_mono (a d : Nat) : (256 : Int) ^ a ≤ 256 ^ (a + d) := by
  induction d with
  | zero => exact Int.le_refl _
  | succ d ih =>
    have h0 : (0 : Int) ≤ 256 ^ (a + d) := Int.pow_nonneg (by decide)
    rw [← Nat.add_assoc, Int.pow_succ]
    omega
theorem pow_le {a b : Nat} (h : a ≤ b) : (256 : Int) ^ a ≤ 256 ^ b := by
  have := pow_mono a (b - a)
  rw [Nat.add_sub_cancel' h] at this
  exact this
theorem nx_len (n : Nat) (s : St) : (nx n s).1.length ≤ n := by
  unfold nx
  cases s with
  | none => simp
  | some l =>
    dsimp only
    split
    · simp only [List.length_take]; omega
    · simp
theorem nu_range {k : Nat} {s : St} (h : RS s) : 0 ≤ (nu k s).1 ∧ (nu k s).1 < 256 ^ k := by
  unfold nu
  have h8 : R8 (nx k s).1 := by
    unfold nx
    cases s with
    | none => intro x hx; cases hx
    | some l =>
      dsimp only
      split
      · exact fun x hx => h l rfl x (List.mem_of_mem_take hx)
      · intro x hx; cases hx
  have h1 := nm_lt _ h8
  have h2 : (256 : Int) ^ (nx k s).1.length ≤ 256 ^ k := pow_le (nx_len k s)
  exact ⟨h1.1, Int.lt_of_lt_of_le h1.2 h2⟩
/-- what a call tells of the reader -/
def NuR (r : Nat) (p : Int × St) (e : Ending) (w w' : World) : Prop := e = .returned (.int .i64 p.1) ∧ Hid (RdAt w' r p.2) ∧ Hid (Fr (fun k => k = r) w w')
theorem num_any (r k : Nat) (s : St) (w : World) (hk : k ≤ 5) (h : RdAt w r s) :
    Calls Tryz.prog 54 #[.pointer (some ⟨r, 0, none⟩), .int .i64 (k : Int)] w fun e w' => NuR r (nu k s) e w w' := by
  have HR := hide h
  have hln := nx_len k s
  clear h
  go_enter Tryz.func54, Tryz.ntmps54
  go_wp2_with fail
  refine (next_any r k s _ (by omega) (unhide HR)).mono ?_
  rintro e w1 ⟨v, rfl, HB, HRd, HF⟩
  go_wp2_with fail
  refine (number_any v _ _ (unhide HB) (by omega)).mono ?_
  rintro e w2 ⟨rfl, rfl⟩
  go_wp2
  go_ret
  exact ⟨rfl, HRd, HF⟩
def FgR (r : Nat) (p : Bool × St) (e : Ending) (w w' : World) : Prop := e = .returned (.bool p.1) ∧ Hid (RdAt w' r p.2) ∧ Hid (Fr (fun k => k = r) w w')
set_option maxHeartbeats 1000000 in
theorem flag_any (r : Nat) (s : St) (w : World) (h : RdAt w r s) :
    Calls Tryz.prog 55 #[.pointer (some ⟨r, 0, none⟩)] w fun e w' => FgR r (fg s) e w w' := by
  have HR := hide h
  clear h
  obtain ⟨v, z, hv⟩ : ∃ v z, nu 1 s = (v, z) := ⟨_, _, rfl⟩
  have HV := hide hv
  have HG : Hid (fg s = (decide (v = 1), if 1 < v then none else z)) := by show _ = _; unfold fg; rw [hv]
  clear hv
  by_cases h1 : 1 < v
  · have h2 : ¬ v = 1 := by omega
    have h2d : decide (v = 1) = false := decide_eq_false h2
    go_enter Tryz.func55, Tryz.ntmps55
    go_wp2_with fail
    refine (num_any r 1 s _ (by omega) (unhide HR)).mono ?_
    rw [unhide HV]
    rintro e w1 ⟨rfl, HR1, HF1⟩
    obtain ⟨rv, ev, hb, _⟩ := unhide HR1
    have HBX := hide hb
    clear hb
    go_wp2_with fail
    refine (fail_any r _ _ _ (unhide HBX)).mono ?_
    rintro e w2 ⟨rfl, HB2, HF2⟩
    go_wp2
    go_ret
    refine ⟨?_, ?_, (unhide HF1).trans (unhide HF2)⟩
    · rw [unhide HG]; rfl
    · rw [unhide HG, if_pos h1]; exact ⟨_, _, unhide HB2, .inl ⟨rfl, rfl, rfl⟩⟩
  · go_enter Tryz.func55, Tryz.ntmps55
    go_wp2_with fail
    refine (num_any r 1 s _ (by omega) (unhide HR)).mono ?_
    rw [unhide HV]
    rintro e w1 ⟨rfl, HR1, HF1⟩
    go_wp2
    go_ret
    refine ⟨?_, ?_, HF1⟩
    · rw [unhide HG]; rfl
    · rw [unhide HG, if_neg (by omega)]; exact HR1
def TxR (r : Nat) (p : ByteArray × St) (e : Ending) (w w' : World) : Prop := e = .returned (.string p.1) ∧ Hid (RdAt w' r p.2) ∧ Hid (Fr (fun k => k = r) w w')
theorem text_any (r k : Nat) (s : St) (w : World) (hk : k ≤ 5) (h : RdAt w r s) :
    Calls Tryz.prog 56 #[.pointer (some ⟨r, 0, none⟩), .int .i64 (k : Int)] w fun e w' => TxR r (tx k s) e w w' := by
  have HR := hide h
  have hrg := nu_range (k := k) h.r8
  have h5 : (256 : Int) ^ k ≤ 256 ^ 5 := pow_le hk
  have h6 : (256 : Int) ^ 5 = 1099511627776 := by decide
  clear h
  obtain ⟨v, z, hv⟩ : ∃ v z, nu k s = (v, z) := ⟨_, _, rfl⟩
  have HV := hide hv
  have HG : Hid (tx k s = (bs (nx v.toNat z).1, (nx v.toNat z).2)) := by show _ = _; unfold tx; rw [hv]
  rw [hv] at hrg
  dsimp only at hrg
  clear hv
  obtain ⟨n, rfl⟩ := Int.eq_ofNat_of_zero_le hrg.1
  have hn : n ≤ 1099511627776 := by omega
  rw [Int.toNat_natCast] at HG
  clear hrg h5 h6
  go_enter Tryz.func56, Tryz.ntmps56
  go_wp2_with fail
  refine (num_any r k s _ hk (unhide HR)).mono ?_
  rw [unhide HV]
  rintro e w1 ⟨rfl, HR1, HF1⟩
  go_wp2_with fail
  refine (next_any r n z _ hn (unhide HR1)).mono ?_
  rintro e w2 ⟨v, rfl, HB, HRd, HF⟩
  have hcv := conv_byt w2 v _ (unhide HB)
  generalize nx n z = p at HB HRd HG hcv
  go_wp2
  go_ret
  refine ⟨?_, ?_, (unhide HF1).trans (unhide HF)⟩
  · rw [unhide HG]; rfl
  · rw [unhide HG]; exact HRd
end Go.Proofs.YtmmhdhpocjnlbaaGreatDoor.Jr
