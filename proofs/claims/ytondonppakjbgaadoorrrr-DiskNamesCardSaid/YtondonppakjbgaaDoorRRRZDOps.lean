/- Proved here: Append to a disk without files, and Sync and Read of a disk's one file; names that are none are refused. Helper contracts. -/
import Derived.Test.YtondonppakjbgaaDoorRRRZDDsk
namespace Go.Proofs.YtondonppakjbgaaDoorRRR.D
open Go.RowKit Go.Maps
set_option maxRecDepth 100000

theorem clone_any (v : Value) (l : List Int) (w : World) (h : Byt w v l) (hl : l.length ≤ 1000000) : Calls Tryd.prog 14 #[v] w fun e w' => ∃ v', e = .returned v' ∧ Hid (w'.ownsRow w.heap.size 5 1 v' l.length (l.map (Value.int .u8))) ∧ Below w.heap.size w w' := by
  have q : ∀ (w : World) (a : Option Addr) (n c n' c' : Nat), (binOp .eql 27 (.slice a n c) (.slice none n' c')).run Tryd.prog w = .ok (.bool a.isNone) w := fun w a n c n' c' => Lib.run_eql_slice_nil w _ _ a n c n' c' Tryd.underlying27
  have HL : Hid (l.length ≤ 1000000) := hl
  obtain ⟨ao, cap, e, _⟩ := id h
  cases ao with
  | none =>
    have hl0 : l = [] := by
      obtain ⟨ao', cap', e', _, _, hc⟩ := h
      rcases hc with hc | ⟨b, off, ea, _⟩
      · exact hc
      · rw [e] at e'; rw [ea] at e'; cases e'
    subst e
    subst hl0
    clear h
    go_enter Tryd.func14, Tryd.ntmps14
    go_wp2
    go_ret
    exact ⟨_, rfl, World.ownsRow_nil _ _ _ _, Below.refl _ _⟩
  | some a =>
    subst e
    have HY : Hid (Byt (w.alloc (.cells #[] 5)) (.slice (some a) l.length cap) l) := h.below ((Below.refl _ _).alloc (Nat.le_refl _) _)
    have HO : Hid ((w.alloc (.cells #[] 5)).ownsRow w.heap.size 5 1 (.slice (some ⟨w.heap.size, 0, none⟩) 0 0) 0 (([] : List Int).map (Value.int .u8))) := World.ownsRow_made w #[] 0 (Nat.le_refl _) (Nat.zero_le _) rfl
    clear h hl
    generalize hn : l.length = n at HL ⊢
    have HN := hide hn
    rw [hn] at HY
    clear hn
    go_enter Tryd.func14, Tryd.ntmps14
    go_wp2_with (first
      | (at_builtin; refine wpList_append_byt_at _ rfl _ _ rfl w.heap.size _ 0 [] rfl (unhide HO) (.slice (some a) n cap) l rfl (unhide HY) (by have := unhide HL; have := unhide HN; omega) (by simp) ?_)
      | go_in)
    intro v1 w1 hown1 hgrow1 _
    go_wp2
    go_ret
    refine ⟨_, rfl, ?_, ?_⟩
    · rw [unhide HN] at hown1
      show World.ownsRow _ _ _ _ _ _ _
      simpa using hown1
    · exact ((Below.refl _ w).alloc (Nat.le_refl _) _).grown hgrow1 (by simp) (fun j hj => by cases hj; exact Nat.le_refl _)
/-- a disk in memory with one file -/
structure One (w : World) (B d : Nat) (s : ByteArray) (E : List Int) : Prop where
  ex : ∃ (m fb : Nat) (c : Int) (sv ev : Value), w.heap[d]? = some (dkO (.map (some m)) c) ∧ 0 ≤ c ∧ c ≤ 1000 ∧ w.ownsMap Tryd.prog 9 pel m 1 (oneD s fb) ∧ w.heap[fb]? = some (.cells #[sv, ev] 53 (0, 0)) ∧ w.ownsRow B 5 1 ev E.length (E.map (Value.int .u8)) ∧ B ≤ fb
  rng : ∀ j, 0 ≤ E.getD j 0 ∧ E.getD j 0 ≤ 255
theorem One.below {w w' : World} {B d : Nat} {s : ByteArray} {E : List Int} (h : One w B d s E) (hb : Below w.heap.size w w') : One w' B d s E := by
  obtain ⟨⟨m, fb, c, sv, ev, h1, h2, h3, h4, h5, h6, h7⟩, hr⟩ := h
  have l1 := (Array.getElem?_eq_some_iff.1 h1).1
  have l5 := (Array.getElem?_eq_some_iff.1 h5).1
  refine ⟨⟨m, fb, c, sv, ev, (hb.block d l1).trans h1, h2, h3, h4.kept (row := none) ⟨hb.os, hb.tape, hb.output, hb.size, fun k hk _ => hb.block k hk⟩ (by simp), (hb.block fb l5).trans h5, owns_below h6 hb, h7⟩, hr⟩
theorem append_bad (d : Nat) (s : ByteArray) (ao : Option Addr) (n cap : Nat) (w : World) (hs : s.size ≤ maxLen) (hn : nmB s = false) : Calls Tryd.prog 8 #[.pointer (some ⟨d, 0, none⟩), .string s, .slice ao n cap] w fun e w' => ∃ x, e = .returned (.iface 60 x) ∧ Hid (ErN w' w.heap.size (.iface 60 x) 1) ∧ Below w.heap.size w w' := by
  have H := hide (begin_bad d s w hs hn)
  clear hs hn
  go_enter Tryd.func8, Tryd.ntmps8
  go_wp2_with (go_at_call 16; refine (unhide H).mono ?_; rintro e w' ⟨x, rfl, hE, hb⟩)
  go_ret
  exact ⟨_, rfl, hE, hb⟩
theorem sync_bad (d : Nat) (s : ByteArray) (w : World) (hs : s.size ≤ maxLen) (hn : nmB s = false) : Calls Tryd.prog 9 #[.pointer (some ⟨d, 0, none⟩), .string s] w fun e w' => ∃ x, e = .returned (.iface 60 x) ∧ Hid (ErN w' w.heap.size (.iface 60 x) 1) ∧ Below w.heap.size w w' := by
  have H := hide (begin_bad d s w hs hn)
  have HR : Hid (Calls Tryd.prog 17 #[.pointer (some ⟨d, 0, none⟩), .string s] w fun e w' => ∃ x, e = .returned (.tuple #[.pointer none, .iface 60 x]) ∧ Hid (ErN w' w.heap.size (.iface 60 x) 1) ∧ Below w.heap.size w w') := by
    clear hs hn
    show Calls _ _ _ _ _
    go_enter Tryd.func17, Tryd.ntmps17
    go_wp2_with (go_at_call 16; refine (unhide H).mono ?_; rintro e w' ⟨x, rfl, hE, hb⟩)
    go_returns
    exact ⟨_, rfl, hE, hb⟩
  clear hs hn H
  go_enter Tryd.func9, Tryd.ntmps9
  go_wp2_with (go_at_call 17; refine (unhide HR).mono ?_; rintro e w' ⟨x, rfl, hE, hb⟩)
  go_ret
  exact ⟨_, rfl, hE, hb⟩
theorem byt_fr {w w' : World} {d : Nat} {m : Value} {c : Int} {v : Value} {l : List Int} (h : Byt w v l) (hd : w.heap[d]? = some (dkO m c)) (hm : ∀ x, m ≠ .int .u8 x) (hf : Fr (· = d) w w') : Byt w' v l := by
  obtain ⟨ao, cap, h1, h2, h3, h4⟩ := h
  refine ⟨ao, cap, h1, h2, h3, ?_⟩
  rcases h4 with h4 | ⟨b, off, e, hc⟩
  · exact .inl h4
  · refine .inr ⟨b, off, e, fun j hj => ?_⟩
    have k := hc j hj
    have hne : b ≠ d := by
      rintro rfl
      rw [cell_of hd] at k
      rcases hq : off + j with _ | _ | _ | _ | q
      · rw [hq] at k; simp at k; exact hm _ k
      · rw [hq] at k; simp at k
      · rw [hq] at k; simp at k
      · rw [hq] at k; simp at k
      · rw [hq] at k; simp at k
    rw [← k]
    exact World.cell?_of_block (hf.block b (cell_lt k) hne)
set_option maxHeartbeats 1000000 in
theorem append_ok (d : Nat) (s : ByteArray) (vb : Value) (ys : List Int) (c : Int) (w : World) (hs : s.size ≤ maxLen) (hn : nmB s = true) (h : w.heap[d]? = some (dkO (.map none) c)) (h0 : 0 ≤ c) (h1 : c ≤ 100) (hy : Byt w vb ys) (hl : ys.length ≤ 1000) :
    Calls Tryd.prog 8 #[.pointer (some ⟨d, 0, none⟩), .string s, vb] w fun e w' => e = .returned .nilIface ∧ Hid (One w' w.heap.size d s ys ∧ Fr (· = d) w w') := by
  have H := hide (begin_ok d (.map none) c s w hs hn h h0 (by omega))
  have HS := hide hs
  have hd := (Array.getElem?_eq_some_iff.1 h).1
  have HY : Hid (∀ w', Fr (· = d) w w' → Byt w' vb ys) := fun w' hf => byt_fr hy h (by simp) hf
  have HRG := hide hy.range
  obtain ⟨ao, cap, rfl, _⟩ := hy.form
  have hlk : ∀ W : World, (Instr.lookup 46 (.map none) (.string s) true).run Tryd.prog W = .ok (.tuple #[.pointer none, .bool false]) W := fun W => by
    have k := Maps.look_nil (w := W) true K_str Tryd.underlying46 (zero_pf W) (key_of hs)
    simpa using k
  have hln : ∀ (W : World) (ty : TypeId), (Builtin.len_ #[46] ty #[.map none]).run Tryd.prog W = .ok (.int .i64 0) W := fun W ty => Maps.len_nil Tryd.underlying46 ty
  have HC : Hid (0 ≤ c ∧ c ≤ 100) := ⟨h0, h1⟩
  clear hs hn h hy h0 h1
  generalize hq : ys.length = n at hl HY ⊢
  have HN := hide hq
  clear hq
  have hl2 : (n : Int) ≤ 1048576 := by omega
  go_enter Tryd.func8, Tryd.ntmps8
  go_wp2_with (first
    | (go_at_call 16; refine (unhide H).mono ?_; rintro e w1 ⟨rfl, hw1⟩; have k0 := cell_of (unhide hw1).1 0; simp at k0; have hd1 : d < w1.heap.size := Nat.lt_of_lt_of_le hd (unhide hw1).2.size)
    | (at_builtin; refine wpList_append_byt_at _ rfl _ _ rfl w.heap.size (.slice none 0 0) 0 [] rfl (World.ownsRow_nil _ _ _ _) (.slice ao n cap) ys rfl (((unhide HY) w1 (unhide hw1).2).below ((Below.refl _ _).alloc (Nat.le_refl _) _)) (by have := unhide HN; omega) (by have := (unhide hw1).2.size; simp; omega) ?_)
    | go_in)
  intro v1 w3 hown3 hgrow3 _
  have hF : w3.heap[w1.heap.size]? = some (.cells #[.slice none 0 0, .slice none 0 0] 53 (0, 0)) := (hgrow3.block w1.heap.size (by simp) (by simp [Value.ownBlock])).trans (heap_alloc_new w1 _)
  have hD : w3.heap[d]? = some (dkO (.map none) (c + 1)) := (hgrow3.block d (by simp; omega) (by simp [Value.ownBlock])).trans ((Below.heap_alloc _ _ d hd1).trans (unhide hw1).1)
  have ck := cell_of hF 1
  have cf := frozen_of hF 1
  simp at ck
  have HFR3 : Hid (Fr (· = d) w w3) := ((unhide hw1).2.trans (Fr.of_below ((Below.refl _ _).alloc (Nat.le_refl _) _))).trans (Fr.of_grown hgrow3 (fun g e => by cases e))
  have HOW : Hid (w3.ownsRow w.heap.size 5 1 v1 ys.length (ys.map (Value.int .u8))) := by
    show World.ownsRow _ _ _ _ _ _ _
    simpa using hown3
  obtain ⟨a1, n1, p1, rfl⟩ : ∃ a1 n1 p1, v1 = .slice a1 n1 p1 := by
    rcases hown3.2 with ⟨rfl, _⟩ | ⟨g, cap, cur, rfl, _⟩
    · exact ⟨_, _, _, rfl⟩
    · exact ⟨_, _, _, rfl⟩
  have hsz : w1.heap.size < w3.heap.size := (Array.getElem?_eq_some_iff.1 hF).1
  have hwle : Hid (w.heap.size ≤ w1.heap.size) := (unhide hw1).2.size
  have H4 : Hid (∀ W, W = w3.setCell ⟨w1.heap.size, 1, none⟩ (.slice a1 n1 p1) → W.heap[w1.heap.size]? = some (.cells #[.slice none 0 0, .slice a1 n1 p1] 53 (0, 0)) ∧ W.heap[d]? = some (dkO (.map none) (c + 1)) ∧ W.ownsRow w.heap.size 5 1 (.slice a1 n1 p1) ys.length (ys.map (Value.int .u8)) ∧ Fr (· = d) w W) := by
    rintro W rfl
    refine ⟨?_, ?_, ?_, ?_⟩
    · have k := set_heap hF 1 (.slice a1 n1 p1) (by simp)
      simpa using k
    · have k : Fr (· = w1.heap.size) w3 (w3.setCell ⟨w1.heap.size, 1, none⟩ (.slice a1 n1 p1)) := set_fr rfl
      exact (k.block d (by omega) (by omega)).trans hD
    · refine ⟨(unhide HOW).1, ?_⟩
      rcases (unhide HOW).2 with h1 | ⟨g, cap', cur, hv, hB, hg, rest⟩
      · exact .inl h1
      · refine .inr ⟨g, cap', cur, hv, hB, ?_, rest⟩
        have k : Fr (· = w1.heap.size) w3 (w3.setCell ⟨w1.heap.size, 1, none⟩ (.slice a1 n1 p1)) := set_fr rfl
        refine (k.block g (Array.getElem?_eq_some_iff.1 hg).1 ?_).trans hg
        rintro rfl
        rw [hF] at hg
        simp at hg
    · have k : Fr (fun k => k = d ∨ k = w1.heap.size) w (w3.setCell ⟨w1.heap.size, 1, none⟩ (.slice a1 n1 p1)) := ((unhide HFR3).mono (fun _ _ e => .inl e)).trans (set_fr (.inr rfl))
      exact k.mono (fun k hk e => by rcases e with e | e; exact e; have := unhide hwle; omega)
  clear hF hD HFR3 HOW hown3 hgrow3 HY H
  go_wp2_with fail
  generalize hW : w3.setCell ⟨w1.heap.size, 1, none⟩ (.slice a1 n1 p1) = w4
  obtain ⟨g1, g2, g3, g4⟩ := (unhide H4) w4 hW.symm
  clear hW H4
  refine (put_nil d w1.heap.size (c + 1) s w4 (unhide HS) g2).mono ?_
  rintro e w5 ⟨rfl, hw5⟩
  have hfin : Hid (One w5 w.heap.size d s ys ∧ Fr (· = d) w w5) := by
    obtain ⟨k1, k2, k3⟩ := unhide hw5
    have hne : w1.heap.size ≠ d := by omega
    refine ⟨⟨⟨_, _, _, _, _, k1, ?_, ?_, k2, (k3.block _ (Array.getElem?_eq_some_iff.1 g1).1 hne).trans g1, ?_, unhide hwle⟩, unhide HRG⟩, g4.trans k3⟩
    · have := (unhide HC).1; omega
    · have := (unhide HC).2; omega
    · refine ⟨g3.1, ?_⟩
      rcases g3.2 with h1 | ⟨g, cap', cur, hv, hB, hg, rest⟩
      · exact .inl h1
      · refine .inr ⟨g, cap', cur, hv, hB, ?_, rest⟩
        refine (k3.block g (Array.getElem?_eq_some_iff.1 hg).1 ?_).trans hg
        rintro rfl
        rw [g2] at hg
        simp at hg
  clear hw5 g1 g2 g3 g4
  go_wp2
  go_ret
  exact ⟨rfl, hfin⟩
theorem one_has (s : ByteArray) (fb : Nat) : Maps.has (oneD s fb) (.string s.data.toList) = true := by
  simp [Maps.has, Lit.sameKey]
theorem one_at (s : ByteArray) (fb : Nat) (z : DataW Unit) : (oneD s fb).atKey (.string s.data.toList) z = .lit (.int .i64 fb) := by
  simp [DataW.atKey, Lit.sameKey]
theorem look_one {w : World} {m fb : Nat} {s : ByteArray} (h : w.ownsMap Tryd.prog 9 pel m 1 (oneD s fb)) (hs : s.size ≤ maxLen) : (Instr.lookup 46 (.map (some m)) (.string s) true).run Tryd.prog w = .ok (.tuple #[.pointer (some ⟨fb, 0, none⟩), .bool true]) w := by
  obtain ⟨v, ps, hr, hv⟩ := h.look_ok K_str Tryd.underlying46 (zero_pf w) (zd := .nil) (zp := []) rfl (key_of hs)
  rw [one_at] at hv
  rw [one_has] at hr
  rw [pel_inv hv] at hr
  exact hr
theorem find_one (d m fb : Nat) (c : Int) (s : ByteArray) (w : World) (hs : s.size ≤ maxLen) (h : w.heap[d]? = some (dkO (.map (some m)) c)) (hm : w.ownsMap Tryd.prog 9 pel m 1 (oneD s fb)) : Calls Tryd.prog 23 #[.pointer (some ⟨d, 0, none⟩), .string s] w fun e w' => e = .returned (.tuple #[.pointer (some ⟨fb, 0, none⟩), .nilIface]) ∧ w' = w := by
  have hl := look_one hm hs
  have c0 := cell_of h 0
  simp at c0
  clear hs h hm
  go_enter Tryd.func23, Tryd.ntmps23
  go_wp2
  go_returns
  exact ⟨rfl, rfl⟩
theorem own_ne {w : World} {m d n : Nat} {D : DataW Unit} {cs : Array Value} {t : TypeId} (h : w.ownsMap Tryd.prog 9 pel m n D) (hd : w.heap[d]? = some (.cells cs t (0, 0))) : m ≠ d := by
  rintro rfl
  obtain ⟨es, cl, hq, _⟩ := h
  rw [hd] at hq
  cases hq
theorem Fr.grown1 {d : Nat} {w w' : World} (h : Fr (· = d) w w') : w.grownBy w' (some d) := ⟨h.os, h.tape, h.output, h.size, fun k hk hne => h.block k hk (fun e => hne (by rw [e]))⟩
theorem reach_one (d m fb : Nat) (c : Int) (s : ByteArray) (w : World) (hs : s.size ≤ maxLen) (hn : nmB s = true) (h1 : w.heap[d]? = some (dkO (.map (some m)) c)) (h2 : 0 ≤ c) (h3 : c ≤ 1000) (h4 : w.ownsMap Tryd.prog 9 pel m 1 (oneD s fb)) : Calls Tryd.prog 17 #[.pointer (some ⟨d, 0, none⟩), .string s] w fun e w' => e = .returned (.tuple #[.pointer (some ⟨fb, 0, none⟩), .nilIface]) ∧ Hid (Fr (· = d) w w') := by
  have HB := hide (begin_ok d (.map (some m)) c s w hs hn h1 h2 (by omega))
  have HS := hide hs
  have HM := hide h4
  have HNE := hide (own_ne h4 h1)
  clear hs hn h1 h2 h3 h4
  go_enter Tryd.func17, Tryd.ntmps17
  go_wp2_with (first
    | (go_at_call 16; refine (unhide HB).mono ?_; rintro e w1 ⟨rfl, hw1⟩)
    | (go_at_call 23; refine (find_one d m fb (c + 1) s w1 (unhide HS) (unhide hw1).1 ((unhide HM).kept (unhide hw1).2.grown1 (fun e => (unhide HNE) (Option.some.inj e)))).mono ?_; rintro e w' ⟨rfl, hw⟩; obtain rfl := hw.symm; clear hw))
  go_returns
  exact ⟨rfl, (unhide hw1).2⟩
set_option maxHeartbeats 1000000 in
theorem sync_ok (B d : Nat) (s : ByteArray) (E : List Int) (w : World) (hs : s.size ≤ maxLen) (hn : nmB s = true) (h : One w B d s E) (hE : E.length ≤ 1000) (hBd : B ≤ d) : Calls Tryd.prog 9 #[.pointer (some ⟨d, 0, none⟩), .string s] w fun e w' => e = .returned .nilIface ∧ Hid (Fr (B ≤ ·) w w') := by
  obtain ⟨⟨m, fb, c, sv, ev, h1, h2, h3, h4, h5, h6, h7⟩, hr⟩ := h
  have hfd : fb ≠ d := by
    rintro rfl
    rw [h1] at h5
    simp at h5
  have HR := hide (reach_one d m fb c s w hs hn h1 h2 h3 h4)
  have hy : Byt w ev E := byt_of_owns h6 hr
  obtain ⟨ao, cap, rfl, _⟩ := hy.form
  have HY : Hid (∀ w', Fr (· = d) w w' → Byt w' (.slice ao E.length cap) E ∧ w'.heap[fb]? = some (.cells #[sv, .slice ao E.length cap] 53 (0, 0))) := fun w' hf => ⟨byt_fr hy h1 (by simp) hf, (hf.block fb (Array.getElem?_eq_some_iff.1 h5).1 hfd).trans h5⟩
  have HB7 := hide h7
  have HBd := hide hBd
  clear hs hn h1 h2 h3 h4 h5 h6 h7 hr hy hBd
  generalize hq : E.length = n at HY hE
  have HN := hide hq
  clear hq
  go_enter Tryd.func9, Tryd.ntmps9
  go_wp2_with (first
    | (go_at_call 17; refine (unhide HR).mono ?_; rintro e w1 ⟨rfl, hw1⟩; have k1 := cell_of ((unhide HY) w1 (unhide hw1)).2 1; simp at k1; have hlt := (Array.getElem?_eq_some_iff.1 ((unhide HY) w1 (unhide hw1)).2).1)
    | (go_at_call 14; refine (clone_any _ E w1 ((unhide HY) w1 (unhide hw1)).1 (by have := unhide HN; omega)).mono ?_; rintro e w2 ⟨v2, rfl, hv2, hb2⟩; have k0 := cell_of ((hb2.block fb hlt).trans ((unhide HY) w1 (unhide hw1)).2) 0; have f0 := frozen_of ((hb2.block fb hlt).trans ((unhide HY) w1 (unhide hw1)).2) 0; simp at k0; obtain ⟨a1, n1, p1, rfl⟩ : ∃ a1 n1 p1, v2 = .slice a1 n1 p1 := by
        (rcases (unhide hv2).2 with ⟨rfl, _⟩ | ⟨g, cap, cur, rfl, _⟩
         · exact ⟨_, _, _, rfl⟩
         · exact ⟨_, _, _, rfl⟩)))
  go_ret
  refine ⟨rfl, ?_⟩
  have k : Fr (B ≤ ·) w w1 := (unhide hw1).mono (fun k _ e => by subst e; exact unhide HBd)
  exact (k.trans (Fr.of_below hb2)).trans (set_fr (unhide HB7))
theorem read_one (B d : Nat) (s : ByteArray) (E : List Int) (w : World) (hs : s.size ≤ maxLen) (hn : nmB s = true) (h : One w B d s E) (hE : E.length ≤ 1000) : Calls Tryd.prog 18 #[.pointer (some ⟨d, 0, none⟩), .string s] w fun e w' => ∃ v, e = .returned (.tuple #[v, .nilIface]) ∧ Hid (w'.ownsRow w.heap.size 5 1 v E.length (E.map (Value.int .u8))) ∧ Below w.heap.size w w' := by
  obtain ⟨⟨m, fb, c, sv, ev, h1, h2, h3, h4, h5, h6, h7⟩, hr⟩ := h
  have HNM := name_any s w hs
  rw [hn] at HNM
  have HNM := hide HNM
  have HF := hide (find_one d m fb c s w hs h1 h4)
  have hy : Byt w ev E := byt_of_owns h6 hr
  obtain ⟨ao, cap, rfl, _⟩ := hy.form
  have HC := hide (clone_any _ E w hy (by omega))
  have c3 := cell_of h1 3
  have k1 := cell_of h5 1
  simp at c3 k1
  clear hs hn h1 h2 h3 h4 h5 h6 h7 hr hy
  generalize hq : E.length = n at HC k1 ⊢
  clear hq
  go_enter Tryd.func18, Tryd.ntmps18
  go_wp2_with (first
    | (go_at_call 20; refine (unhide HNM).mono ?_; rintro e w' ⟨rfl, hw⟩; obtain rfl := hw.symm; clear hw)
    | (go_at_call 23; refine (unhide HF).mono ?_; rintro e w' ⟨rfl, hw⟩; obtain rfl := hw.symm; clear hw)
    | (go_at_call 14; refine (unhide HC).mono ?_; rintro e w2 ⟨v2, rfl, hv2, hb2⟩))
  go_returns
  exact ⟨_, rfl, hv2, hb2⟩
end Go.Proofs.YtondonppakjbgaaDoorRRR.D
