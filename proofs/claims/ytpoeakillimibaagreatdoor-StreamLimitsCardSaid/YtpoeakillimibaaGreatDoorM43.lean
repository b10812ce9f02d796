/- Proved here: helpers, one text behind the other. -/
import Derived.Test.YtpoeakillimibaaGreatDoorM42
import Derived.Test.YtpoeakillimibaaGreatDoorM38
import Derived.Lib.AppendZerosOnto
/- Proved here: append(bytes, make([]byte, n)...): the bytes with n zeros behind, in a row of one's own. Helpers. -/
namespace Go.Proofs.YtpoeakillimibaaGreatDoor.K
open Go.RowKit
set_option maxRecDepth 100000

/-- bytes in a row that may be written, at B or behind -/
structure OwnB (w : World) (B g cap : Nat) (l : List Int) : Prop where
  cap1 : l.length ≤ cap
  cap2 : cap ≤ maxLen
  at_ : B ≤ g
  cell : ∀ j, j < l.length → w.cell? ⟨g, j, none⟩ = some (.int .u8 (l.getD j 0)) ∧ w.frozen? ⟨g, j, none⟩ = false
theorem OwnB.byt {w : World} {B g cap : Nat} {l : List Int} (h : OwnB w B g cap l) (hr : ∀ j, 0 ≤ l.getD j 0 ∧ l.getD j 0 ≤ 255) : Byt w (.slice (some ⟨g, 0, none⟩) l.length cap) l :=
  ⟨_, cap, rfl, ⟨h.cap1, h.cap2⟩, hr, .inr ⟨g, 0, rfl, fun j hj => by rw [Nat.zero_add]; exact (h.cell j hj).1⟩⟩
theorem owns_ownB {w : World} {B n : Nat} {v : Value} {l : List Int} (h : w.ownsRow B 5 1 v n (l.map (Value.int .u8))) (h1 : 1 ≤ n) : ∃ g cap, v = .slice (some ⟨g, 0, none⟩) n cap ∧ OwnB w B g cap l := by
  have hl : l.length = n := by simpa using h.1
  rcases h.2 with ⟨_, h0⟩ | ⟨g, cap, cur, rfl, hB, hg, hnc, hcm, hcs, htake⟩
  · omega
  · refine ⟨g, cap, rfl, by omega, hcm, hB, fun j hj => ⟨?_, ?_⟩⟩
    · rw [h.cellAt j (by omega), List.getElem?_map, List.getElem?_eq_getElem hj, List.getD_eq_getElem?_getD, List.getElem?_eq_getElem hj]; rfl
    · simp [World.frozen?, hg]
/-- append of n zeros to new bytes; h0: what it does where n is 0 -/
theorem zeros_own (xs : List Int) (n : Nat) (hx : 1 ≤ xs.length) (hl : xs.length + n ≤ 1000) (W : World)
    (h0 : ∀ W' : World, (Builtin.append_ #[31, 3] 31 #[.slice (some ⟨W.heap.size, 0, none⟩) xs.length xs.length, .int .i64 0]).run Tryz.prog W' = .ok (.slice (some ⟨W.heap.size, 0, none⟩) xs.length xs.length) W') :
    ∃ v w', (Builtin.append_ #[31, 3] 31 #[.slice (some ⟨W.heap.size, 0, none⟩) xs.length xs.length, .int .i64 n]).run Tryz.prog (W.alloc (.cells (xs.map (Value.int .u8)).toArray 5)) = .ok v w' ∧
      (w'.ownsRow W.heap.size 5 1 v (xs.length + n) ((xs ++ List.replicate n 0).map (Value.int .u8)) ∧ Below W.heap.size W w') := by
  obtain ⟨i0, hi, hz0, hz1, hz2⟩ := info_parts Tryz.infoU8
  have hb0 : Below W.heap.size W (W.alloc (.cells (xs.map (Value.int .u8)).toArray 5)) := (Below.refl _ _).alloc (Nat.le_refl _) _
  rcases Nat.eq_zero_or_pos n with rfl | hn
  · refine ⟨_, _, h0 _, ⟨by simp, .inr ⟨W.heap.size, xs.length, _, rfl, Nat.le_refl _, heap_alloc_new _ _, by omega, by unfold maxLen; omega, by simp, ?_⟩⟩, hb0⟩
    simp
    exact List.take_of_length_le (by simp)
  · have hold := run_firstCells_some (P := Tryz.prog) (W.alloc (.cells (xs.map (Value.int .u8)).toArray 5)).drew 1 xs.length ⟨W.heap.size, 0, none⟩ xs.length xs.length (xs.map (Value.int .u8)) (by simp) (by
      intro j v hj
      have hj2 : j < xs.length := by
        rcases Nat.lt_or_ge j xs.length with h | h
        · exact h
        · rw [List.getElem?_eq_none (by simpa using h)] at hj; cases hj
      rw [addr_add, Nat.zero_add]
      show (W.alloc (.cells (xs.map (Value.int .u8)).toArray 5)).cell? ⟨W.heap.size, j, none⟩ = some v
      rw [World.cell?_alloc_at _ _ _ _ rfl, List.getElem?_toArray]
      exact hj)
    have hnc : Builtin.nextslicecap (xs.length + n) xs.length * i0.bytes ≤ 281474976710656 := by
      rw [hz2]
      exact growslice_fits (by omega) (by omega)
    have := Lib.run_append_grow_zeros (P := Tryz.prog) (W.alloc (.cells (xs.map (Value.int .u8)).toArray 5)) 31 3 31 5 i0 (.int .u8 0) .i64 .i64 Tryz.underlying31 Tryz.underlying3 hi hz0 (some ⟨W.heap.size, 0, none⟩) xs.length xs.length (xs.map (Value.int .u8)) (by rw [hz1]; exact hold) n hn (by rw [hz1]; decide) (by omega) (by omega) (by rw [hz2]; omega) hnc
    have hge := grownCap_ge (W.alloc (.cells (xs.map (Value.int .u8)).toArray 5)) (xs.length + n) xs.length 5
    have hle := grownCap_le_maxLen (W.alloc (.cells (xs.map (Value.int .u8)).toArray 5)) (xs.length + n) xs.length 5 (by unfold maxLen; omega)
    have hb1 : Below W.heap.size W (W.alloc (.cells (xs.map (Value.int .u8)).toArray 5)).drew := hb0.drew
    refine ⟨_, _, this, ?_, hb1.alloc hb1.size _⟩
    generalize grownCap (W.alloc (.cells (xs.map (Value.int .u8)).toArray 5)) (xs.length + n) xs.length 5 = g at hge hle
    refine ⟨by simp, .inr ⟨_, g, _, rfl, by simp, heap_alloc_new _ _, hge, hle, ?_, ?_⟩⟩
    · simp [Builtin.zeroCells, Value.cells]
      omega
    · show ((xs.map (Value.int .u8)).toArray ++ Builtin.zeroCells #[.int .u8 0] n ++ Builtin.zeroCells #[.int .u8 0] (g - (xs.length + n))).toList.take _ = _
      rw [Array.toList_append, Array.toList_append, zero_cells, zero_cells, List.map_append]
      exact List.take_left' (by simp)
/-- a row of one's own behind W that holds the bytes -/
def Zrow (W : World) (l : List Int) (v : Value) (w' : World) : Prop := w'.ownsRow W.heap.size 5 1 v l.length (l.map (Value.int .u8)) ∧ Below W.heap.size W w'
theorem zeros_row (xs : List Int) (n : Nat) (hx : 1 ≤ xs.length) (hl : xs.length + n ≤ 1000) (W : World)
    (h0 : ∀ W' : World, (Builtin.append_ #[31, 3] 31 #[.slice (some ⟨W.heap.size, 0, none⟩) xs.length xs.length, .int .i64 0]).run Tryz.prog W' = .ok (.slice (some ⟨W.heap.size, 0, none⟩) xs.length xs.length) W') :
    ∃ v w', (Builtin.append_ #[31, 3] 31 #[.slice (some ⟨W.heap.size, 0, none⟩) xs.length xs.length, .int .i64 n]).run Tryz.prog (W.alloc (.cells (xs.map (Value.int .u8)).toArray 5)) = .ok v w' ∧ Zrow W (xs ++ List.replicate n 0) v w' := by
  obtain ⟨v, w', h1, h2, h3⟩ := zeros_own xs n hx hl W h0
  exact ⟨v, w', h1, by rw [List.length_append, List.length_replicate]; exact h2, h3⟩
theorem Zrow.open_ {W w' : World} {l : List Int} {v : Value} (h : Zrow W l v w') (hl : 1 ≤ l.length) : ∃ g cap, v = .slice (some ⟨g, 0, none⟩) l.length cap ∧ OwnB w' W.heap.size g cap l ∧ Below W.heap.size W w' := by
  obtain ⟨g, cap, h1, h2⟩ := owns_ownB h.1 hl
  exact ⟨g, cap, h1, h2, h.2⟩
/-- what another stream's feeding leaves as it was -/
theorem Str.fb {w w' : World} {S T : Nat} {lim : Int} (h : Str w T lim 0 (.slice none 0 0) []) (hf : FB S none w w') (hT : T ≠ S) : Str w' T lim 0 (.slice none 0 0) [] := by
  have hl : T < w.heap.size := cell_lt h.c0
  have hb : w'.heap[T]? = w.heap[T]? := hf.block T hl hT (fun e => by cases e)
  exact ⟨(World.cell?_of_block (a := ⟨T, 0, none⟩) hb).trans h.c0, (World.cell?_of_block (a := ⟨T, 1, none⟩) hb).trans h.c1, (World.cell?_of_block (a := ⟨T, 2, none⟩) hb).trans h.c2, (World.frozen?_of_block (a := ⟨T, 1, none⟩) hb).trans h.f1, (World.frozen?_of_block (a := ⟨T, 2, none⟩) hb).trans h.f2, World.ownsRow_nil _ _ _ _, h.rng⟩
theorem byt_fb {w w' : World} {S g n cap : Nat} {l : List Int} (h : Byt w (.slice (some ⟨g, 0, none⟩) n cap) l) (hf : FB S none w w') (hg : g ≠ S) (hl : g < w.heap.size) : Byt w' (.slice (some ⟨g, 0, none⟩) n cap) l := by
  obtain ⟨ao, cap', e, h2, h3, h4⟩ := h
  have hb : w'.heap[g]? = w.heap[g]? := hf.block g hl hg (fun e => by cases e)
  refine ⟨ao, cap', e, h2, h3, ?_⟩
  rcases h4 with h4 | ⟨b, off, e2, hc⟩
  · exact .inl h4
  · have hgb : g = b := by
      simp only [Value.slice.injEq] at e
      rw [e2] at e
      have h5 := e.1
      simp at h5
      exact h5.1
    subst hgb
    exact .inr ⟨g, off, e2, fun j hj => (World.cell?_of_block (a := ⟨g, off + j, none⟩) hb).trans (hc j hj)⟩
theorem pub_is (k : Nat) (h : 4 ≤ k) : (48 :: (k : Int) :: 0 :: 1 :: 97 :: 0 :: List.replicate (k - 4) 0) = pubL (k - 4) := by
  unfold pubL
  rw [show ((k - 4 : Nat) : Int) + 4 = (k : Int) by omega]
theorem pub_range (k : Nat) (h : 4 ≤ k) (h2 : k < 58) : ∀ j, 0 ≤ (pubL (k - 4)).getD j 0 ∧ (pubL (k - 4)).getD j 0 ≤ 255 := by
  intro j
  rw [← pub_is k h]
  match j with
  | 0 => simp
  | 1 => simp; omega
  | 2 => simp
  | 3 => simp
  | 4 => simp
  | 5 => simp
  | j + 6 =>
    simp only [List.getD_cons_succ]
    rw [List.getD_eq_getElem?_getD, List.getElem?_replicate]
    split <;> simp
/-- what feeding that packet tells -/
theorem pub_run {k : Nat} (h : 4 ≤ k) (h2 : k < 58) {Ps : List Pa} {n : Nat} {m : Int} (hr : SRun ((k : Int) + 2) (pubL (k - 4)) Ps n m) : m = 3 ∧ n = k + 2 ∧ ∃ P, Ps = [P] ∧ P.payload.size = k - 4 := by
  obtain ⟨f1, f2, P, r, f3, f4⟩ := pub_facts (k - 4) (by omega)
  rw [show ((k - 4 : Nat) : Int) + 6 = (k : Int) + 2 by omega] at f1
  obtain ⟨Qs, j, rfl, rfl, hr2⟩ := srun_step hr f1 f3
  rw [f2, List.drop_of_length_le (by rw [pub_len]; exact Nat.le_refl _)] at hr2
  obtain ⟨rfl, rfl, rfl⟩ := srun_stop hr2 (end3 _ (by omega)) (by decide)
  exact ⟨rfl, by rw [f2]; omega, P, rfl, f4⟩
theorem ping_byt (w : World) : Byt (w.alloc (.cells #[.int .u8 192, .int .u8 0] 5)) (.slice (some ⟨w.heap.size, 0, none⟩) 2 2) [192, 0] := by
  refine ⟨_, 2, rfl, ⟨by simp, by unfold maxLen; simp⟩, ?_, .inr ⟨w.heap.size, 0, rfl, ?_⟩⟩
  · intro j; rcases j with _ | _ | j <;> simp
  · intro j hj; rcases j with _ | _ | j
    · simp
    · simp
    · simp at hj; omega
theorem app0_two (B : Nat) (W : World) : (Builtin.append_ #[31, 3] 31 #[.slice (some ⟨B, 0, none⟩) 2 2, .int .i64 0]).run Tryz.prog W = .ok (.slice (some ⟨B, 0, none⟩) 2 2) W := by kernel_rfl
theorem app0_six (B : Nat) (W : World) : (Builtin.append_ #[31, 3] 31 #[.slice (some ⟨B, 0, none⟩) 6 6, .int .i64 0]).run Tryz.prog W = .ok (.slice (some ⟨B, 0, none⟩) 6 6) W := by kernel_rfl
theorem two_range (k : Nat) (h : k < 58) : ∀ j, 0 ≤ (48 :: (k : Int) :: List.replicate k 0).getD j 0 ∧ (48 :: (k : Int) :: List.replicate k 0).getD j 0 ≤ 255 := by
  intro j
  match j with
  | 0 => simp
  | 1 => simp; omega
  | j + 2 =>
    simp only [List.getD_cons_succ]
    rw [List.getD_eq_getElem?_getD, List.getElem?_replicate]
    split <;> simp
theorem byt_set {w1 : World} {g1 cap1 n : Nat} {k : Nat} {l : List Int} (hc : 2 ≤ n) (h : Byt w1 (.slice (some ⟨g1, 0, none⟩) n cap1) (48 :: (k : Int) :: l)) :
    Byt ((w1.setCell ⟨g1, 3, none⟩ (.int .u8 1)).setCell ⟨g1, 4, none⟩ (.int .u8 97)) (.slice (some ⟨g1, 0, none⟩) 2 cap1) [48, (k : Int)] := by
  have h2 := h.take 2 (by omega)
  obtain ⟨ao, cap', e, h3, h4, h5⟩ := h2
  refine ⟨ao, cap', e, h3, h4, ?_⟩
  rcases h5 with h5 | ⟨b, off, e2, hc⟩
  · exact .inl h5
  · subst e2
    have e3 : g1 = b ∧ 0 = off := by
      simp only [Value.slice.injEq, Option.some.injEq, Addr.mk.injEq] at e
      exact ⟨e.1.1, e.1.2.1⟩
    obtain ⟨rfl, rfl⟩ := e3
    refine .inr ⟨g1, 0, rfl, fun j hj => ?_⟩
    have hj2 : j < 2 := by simpa using hj
    have := hc j hj
    have n4 : (⟨g1, 4, none⟩ : Addr) ≠ ⟨g1, 0 + j, none⟩ := by intro e; simp only [Addr.mk.injEq] at e; omega
    have n3 : (⟨g1, 3, none⟩ : Addr) ≠ ⟨g1, 0 + j, none⟩ := by intro e; simp only [Addr.mk.injEq] at e; omega
    exact (World.cell?_setCell_other _ _ _ _ n4).trans ((World.cell?_setCell_other _ _ _ _ n3).trans this)
end Go.Proofs.YtpoeakillimibaaGreatDoor.K
/- Proved here: the statement StreamLimits, called in any world whose listed variable is as laid, tells true and changes nothing that was there. -/
namespace Go.Proofs.YtpoeakillimibaaGreatDoor.K
open Go.RowKit
set_option maxRecDepth 100000

set_option maxHeartbeats 20000000 in
theorem limits_walk (lim : Int) (ao : Option Addr) (len cap : Nat) (w : World) (hg : Laid w) :
    Calls Tryz.prog 22 #[.agg #[.int .i64 lim, .slice ao len cap]] w fun e w' => e = .returned (.bool true) ∧ Below w.heap.size w w' := by
  have HG := hide hg
  clear hg
  go_enter Tryz.func22, Tryz.ntmps22
  go_wp2
  have HW0 : Hid (Below w.heap.size w (w.alloc (.cells #[.int .i64 lim, .slice ao len cap] 57))) := (Below.refl _ _).alloc (Nat.le_refl _) _
  have hcL : (w.alloc (.cells #[.int .i64 lim, .slice ao len cap] 57)).cell? ⟨w.heap.size, 1, none⟩ = some (.slice ao len cap) := by simp
  have hsz0 : w.heap.size < (w.alloc (.cells #[.int .i64 lim, .slice ao len cap] 57)).heap.size := by simp
  have HCL := hide hcL
  clear hcL
  generalize w.alloc (.cells #[.int .i64 lim, .slice ao len cap] 57) = W0 at HW0 HCL hsz0 ⊢
  go_loopw [3] (fun i wr => ∃ k : Nat, k ≤ 58 ∧ i = .int .i64 ((k : Int) + 2) ∧ Hid (Below W0.heap.size W0 wr)) (fun i _ => 60 - (intOf i).toNat)
  case atStart => exact ⟨0, by omega, rfl, Below.refl _ _⟩
  case round =>
    obtain ⟨k, hk, rfl, HBW⟩ := hrel
    have HGr := hide ((unhide HG).below ((unhide HW0).trans ((unhide HBW).mono (unhide HW0).size)) (unhide HG).pos)
    by_cases hlt : k < 58
    · by_cases hk4 : 4 ≤ k
      · have h60 : ((k : Int) + 2) < 60 := by omega
        have HAP1 : Hid (∃ v w', (Builtin.append_ #[31, 3] 31 #[.slice (some ⟨wr.heap.size, 0, none⟩) 2 2, .int .i64 (k : Int)]).run Tryz.prog (wr.alloc (.cells #[.int .u8 48, .int .u8 (k : Int)] 5)) = .ok v w' ∧ Zrow wr (48 :: (k : Int) :: List.replicate k 0) v w') := zeros_row [48, (k : Int)] k (by simp) (by simp; omega) wr (fun W' => app0_two _ W')
        go_wp2_with (first | (at_builtin; refine wpList_append_run _ rfl _ _ 31 3 rfl _ _ rfl rfl (unhide HAP1) ?_) | fail)
        intro v1 w1 hz1
        obtain ⟨g1, cap1, rfl, hob1, hb1⟩ := hz1.open_ (by simp)
        have HB1 := hide hb1
        have hg1 := hob1.at_
        have hc3 := hob1.cell 3 (by simp; omega)
        have hc4 := hob1.cell 4 (by simp; omega)
        obtain ⟨hc3, hf3⟩ := hc3
        obtain ⟨hc4, hf4⟩ := hc4
        clear hb1 hob1 hz1 HAP1
        have HAP2 : Hid (∃ v w', (Builtin.append_ #[31, 3] 31 #[.slice (some ⟨w1.heap.size, 0, none⟩) 6 6, .int .i64 ((k : Int) + 2 - 6)]).run Tryz.prog (((w1.setCell ⟨g1, 3, none⟩ (.int .u8 1)).setCell ⟨g1, 4, none⟩ (.int .u8 97)).alloc (.cells #[.int .u8 48, .int .u8 (k : Int), .int .u8 0, .int .u8 1, .int .u8 97, .int .u8 0] 5)) = .ok v w' ∧ Zrow ((w1.setCell ⟨g1, 3, none⟩ (.int .u8 1)).setCell ⟨g1, 4, none⟩ (.int .u8 97)) (48 :: (k : Int) :: 0 :: 1 :: 97 :: 0 :: List.replicate (k - 4) 0) v w') := by
          have e : ((k : Int) + 2 - 6) = ((k - 4 : Nat) : Int) := by omega
          have hz := zeros_row [48, (k : Int), 0, 1, 97, 0] (k - 4) (by simp) (by simp; omega) ((w1.setCell ⟨g1, 3, none⟩ (.int .u8 1)).setCell ⟨g1, 4, none⟩ (.int .u8 97)) (fun W' => app0_six _ W')
          rw [show ((w1.setCell ⟨g1, 3, none⟩ (.int .u8 1)).setCell ⟨g1, 4, none⟩ (.int .u8 97)).heap.size = w1.heap.size by simp] at hz
          show ∃ v w', _
          rw [e]
          exact hz
        have HBs : Hid (Below wr.heap.size wr ((w1.setCell ⟨g1, 3, none⟩ (.int .u8 1)).setCell ⟨g1, 4, none⟩ (.int .u8 97))) := ((unhide HB1).setCell hg1 _).setCell hg1 _
        go_wp2_with (first | (at_builtin; refine wpList_append_run _ rfl _ _ 31 3 rfl _ _ rfl rfl (unhide HAP2) ?_) | fail)
        intro v2 w2 hz2
        obtain ⟨g2, cap2, hv2, hob2, hb2⟩ := hz2.open_ (by simp)
        have HB2 : Hid (Below wr.heap.size wr w2) := (unhide HBs).trans (hb2.mono (unhide HBs).size)
        have hlen2 : (48 :: (k : Int) :: 0 :: 1 :: 97 :: 0 :: List.replicate (k - 4) 0).length = k + 2 := by simp; omega
        rw [hlen2] at hv2
        subst hv2
        have HY2 : Hid (Byt w2 (.slice (some ⟨g2, 0, none⟩) (k + 2) cap2) (pubL (k - 4))) := by
          have h := hob2.byt (by rw [pub_is k hk4]; exact pub_range k hk4 hlt)
          rw [hlen2, pub_is k hk4] at h
          exact h
        have hg2 : g2 < w2.heap.size := cell_lt (hob2.cell 0 (by simp)).1
        have hcp2 : k + 2 ≤ cap2 := by have := hob2.cap1; rw [hlen2] at this; exact this
        clear hb2 hob2 hz2 HAP2 HBs hc3 hf3 hc4 hf4 HB1 hg1 hlen2
        have hsl : slim ((k : Int) + 2) = (k : Int) + 2 := by unfold slim; rw [if_neg (by omega), if_neg (by omega)]
        have hsl2 : slim ((k : Int) + 2 - 1) = (k : Int) + 1 := by unfold slim; rw [if_neg (by omega), if_neg (by omega)]; omega
        have HN1 := hide (snew_any ((k : Int) + 2) w2)
        rw [hsl] at HN1
        go_wp2_with fail
        refine (unhide HN1).mono ?_
        rintro e w3 ⟨rfl, hw3⟩
        have HS3 : Hid (Str w3 w2.heap.size ((k : Int) + 2) 0 (.slice none 0 0) []) := by rw [hw3]; exact str_new _ _
        have HBd3 : Hid (Below w2.heap.size w2 w3) := by rw [hw3]; exact (Below.refl _ _).alloc (Nat.le_refl _) _
        have hs3 : w3.heap.size = w2.heap.size + 1 := by rw [hw3]; simp
        clear hw3 HN1 hsl
        have HN2 := hide (snew_any ((k : Int) + 2 - 1) w3)
        rw [hsl2] at HN2
        go_wp2_with fail
        refine (unhide HN2).mono ?_
        rintro e w4 ⟨rfl, hw4⟩
        have HT4 : Hid (Str w4 w3.heap.size ((k : Int) + 1) 0 (.slice none 0 0) []) := by rw [hw4]; exact str_new _ _
        have HBd4 : Hid (Below w3.heap.size w3 w4) := by rw [hw4]; exact (Below.refl _ _).alloc (Nat.le_refl _) _
        have hs4 : w4.heap.size = w3.heap.size + 1 := by rw [hw4]; simp
        clear hw4 HN2 hsl2
        have HS4 := hide ((unhide HS3).below (unhide HBd4))
        have HB24 : Hid (Below w2.heap.size w2 w4) := (unhide HBd3).trans ((unhide HBd4).mono (by omega))
        have HB4 : Hid (Below wr.heap.size wr w4) := (unhide HB2).trans ((unhide HB24).mono (unhide HB2).size)
        have HG4 := hide ((unhide HGr).below (unhide HB4) (unhide HGr).pos)
        clear HS3 HBd3 HBd4
        have HY4 := hide ((unhide HY2).below (unhide HB24))
        go_wp2_with fail
        refine (sfeed_ok w2.heap.size ((k : Int) + 2) (.slice none 0 0) [] _ (pubL (k - 4)) _ (unhide HG4) (unhide HS4) (unhide HY4) (by omega) (by rw [List.nil_append, pub_len]; omega)).mono ?_
        rintro e w5 ⟨v5, E5, qs5, Ps5, n5, m5, hv5, rfl, -, hrun5, -, hpk5, hres5, -, hfb5⟩
        rw [List.nil_append] at hrun5
        obtain ⟨rfl, rfl, P, rfl, hpay⟩ := pub_run hk4 hlt hrun5
        obtain rfl : E5 = .nilIface := by
          rcases hres5 with ⟨_, h1, _⟩ | ⟨h1, _⟩
          · exact h1
          · exact absurd rfl h1
        obtain ⟨q, rfl⟩ : ∃ q, qs5 = [q] := List.length_eq_one_iff.1 hpk5.len
        have hmean := hpk5.mean 0 q P rfl rfl
        have hqp : q.payload.size = k - 4 := by rw [hmean.sc.2.2.2.2.2.2.1]; exact hpay
        obtain ⟨g5, cap5, rfl, hc5⟩ : ∃ g cap, v5 = .slice (some ⟨g, 0, none⟩) 1 cap ∧ w5.cell? ⟨g, 6, none⟩ = some (.string q.payload) := by
          have hrow := hpk5.row
          rcases hrow.2 with ⟨_, h0⟩ | ⟨g, cap, cur, rfl, _⟩
          · simp at h0
          · exact ⟨g, cap, rfl, by rw [hrow.cellAt 6 (by simp)]; rfl⟩
        have HT5 := hide ((unhide HT4).fb hfb5 (by omega))
        have HY5 := hide (byt_fb (unhide HY4) hfb5 (by omega) (by omega))
        have HB5 : Hid (Below wr.heap.size wr w5) := hfb5.bel (unhide HB4) (unhide HB4).size (unhide HB2).size (fun g e => by cases e)
        have hs5 : w4.heap.size ≤ w5.heap.size := hfb5.size
        have HG5 := hide ((unhide HGr).below (unhide HB5) (unhide HGr).pos)
        clear hrun5 hpk5 hres5 hfb5 hmean hpay HT4 HY4 HB4 HG4 HS4 HY2 HB24
        have hqz : (((k - 4 : Nat) : Int) != (k : Int) + 2 - 6) = false := by rw [bne_eq_false_iff_eq]; omega
        rw [hs3] at HT5
        go_wp2_with (first | (go_at_call 43; refine (num5_nil _).mono ?_; rintro e w6 ⟨rfl, hw6⟩; obtain rfl := hw6.symm; clear hw6))
        have hsr := (unhide HB2).size
        have HYt : Hid (Byt w5 (.slice (some ⟨g2, 0, none⟩) 2 cap2) [48, (k : Int)]) := by
          have h := (unhide HY5).take 2 (by omega)
          rw [← pub_is k hk4] at h
          exact h
        refine (sfeed_ok (w2.heap.size + 1) ((k : Int) + 1) (.slice none 0 0) [] _ [48, (k : Int)] _ (unhide HG5) (unhide HT5) (unhide HYt) (by omega) (by simp)).mono ?_
        rintro e w6 ⟨v6, E6, qs6, Ps6, n6, m6, hv6, rfl, -, hrun6, -, -, hres6, -, hfb6⟩
        rw [List.nil_append] at hrun6
        obtain ⟨rfl, rfl, rfl⟩ := srun_stop hrun6 (lim_facts k (by omega) (by omega)) (by decide)
        obtain ⟨x6, rfl, her6, hst6⟩ : ∃ x, E6 = .iface 149 x ∧ Er w6 1 (.iface 149 x) 2 ∧ Str w6 (w2.heap.size + 1) ((k : Int) + 1) 2 hv6 [] := by
          rcases hres6 with ⟨h1, _⟩ | ⟨_, ⟨x, rfl⟩, h2, h3⟩
          · exact absurd h1 (by decide)
          · exact ⟨x, rfl, h2, h3⟩
        obtain ⟨aoh, caph, rfl, -⟩ := own0 hst6.row
        have HB6 : Hid (Below wr.heap.size wr w6) := hfb6.bel (unhide HB5) (unhide HB5).size (by omega) (fun g e => by cases e)
        have hs6 := (unhide HB6).size
        have HE6 := hide her6
        have HS6 := hide hst6
        clear hrun6 hres6 hfb6 her6 hst6 HYt HT5 HY5 HB5 HG5
        have HA7 : Hid (Below w6.heap.size w6 (w6.alloc (.cells #[.int .u8 192, .int .u8 0] 5))) := (Below.refl _ _).alloc (Nat.le_refl _) _
        go_wp2_with fail
        refine (sfeed_bad (w2.heap.size + 1) ((k : Int) + 1) 2 (.slice aoh 0 caph) [] _ [192, 0] _ ((unhide HS6).below (unhide HA7)) (ping_byt w6) (by decide)).mono ?_
        rintro e w8 ⟨x8, rfl, her8, hb8⟩
        have HB68 : Hid (Below w6.heap.size w6 w8) := (unhide HA7).trans (hb8.mono (unhide HA7).size)
        have HB8 : Hid (Below wr.heap.size wr w8) := (unhide HB6).trans ((unhide HB68).mono hs6)
        have HG8 := hide ((unhide HGr).below (unhide HB8) (unhide HGr).pos)
        have HF8 := hide (Er.below (unhide HB68) (unhide HE6))
        have HE8 := hide her8
        have HS8 := hide ((unhide HS6).below (unhide HB68))
        clear hb8 her8 HA7 HB68 HB6 HS6 HE6
        go_wp2_with (first
          | (go_at_call 43; refine (num5 _ 2 _ (unhide HG8) (.inr ⟨1, by decide, unhide HF8⟩)).mono ?_; rintro e w9 ⟨rfl, hb9⟩; have HB9 : Hid (Below wr.heap.size wr w9) := (unhide HB8).trans (hb9.mono (unhide HB8).size); have HG9 := hide ((unhide HGr).below (unhide HB9) (unhide HGr).pos); have HE9 := hide (Er.below hb9 (unhide HE8)); have HS9 := hide ((unhide HS8).below hb9); clear hb9 HB8 HG8 HE8 HS8 HF8)
          | (go_at_call 43; refine (num5 _ 2 _ (unhide HG9) (.inr ⟨1, by decide, unhide HE9⟩)).mono ?_; rintro e w10 ⟨rfl, hb10⟩; have HB10 : Hid (Below wr.heap.size wr w10) := (unhide HB9).trans (hb10.mono (unhide HB9).size); have c10 := ((unhide HS9).below hb10).c1; clear hb10 HB9 HG9 HE9 HS9)
          | (go_at_call 45; refine (sheld_any (w2.heap.size + 1) aoh 0 caph _ c10).mono ?_; rintro e w11 ⟨rfl, hw11⟩; obtain rfl := hw11.symm; clear hw11))
        exact ⟨⟨k + 1, by omega, by congr 1 <;> omega, (unhide HBW).trans ((unhide HB10).mono (unhide HBW).size)⟩, by simp [intOf]; omega⟩
      · by_cases hk3 : 3 ≤ k
        · have h60 : ((k : Int) + 2) < 60 := by omega
          have HAP1 : Hid (∃ v w', (Builtin.append_ #[31, 3] 31 #[.slice (some ⟨wr.heap.size, 0, none⟩) 2 2, .int .i64 (k : Int)]).run Tryz.prog (wr.alloc (.cells #[.int .u8 48, .int .u8 (k : Int)] 5)) = .ok v w' ∧ Zrow wr (48 :: (k : Int) :: List.replicate k 0) v w') := zeros_row [48, (k : Int)] k (by simp) (by simp; omega) wr (fun W' => app0_two _ W')
          go_wp2_with (first | (at_builtin; refine wpList_append_run _ rfl _ _ 31 3 rfl _ _ rfl rfl (unhide HAP1) ?_) | fail)
          intro v1 w1 hz1
          obtain ⟨g1, cap1, hv1, hob1, hb1⟩ := hz1.open_ (by simp)
          have HB1 := hide hb1
          have hg1 := hob1.at_
          have hlen1 : (48 :: (k : Int) :: List.replicate k 0).length = k + 2 := by simp
          rw [hlen1] at hv1
          subst hv1
          have hcp1 : k + 2 ≤ cap1 := by have := hob1.cap1; rw [hlen1] at this; exact this
          have HY1 : Hid (Byt w1 (.slice (some ⟨g1, 0, none⟩) (k + 2) cap1) (48 :: (k : Int) :: List.replicate k 0)) := by
            have h := hob1.byt (two_range k (by omega))
            rw [hlen1] at h
            exact h
          have hg1b : g1 < w1.heap.size := cell_lt (hob1.cell 0 (by simp)).1
          obtain ⟨hc3, hf3⟩ := hob1.cell 3 (by simp; omega)
          obtain ⟨hc4, hf4⟩ := hob1.cell 4 (by simp; omega)
          have HB2 : Hid (Below wr.heap.size wr ((w1.setCell ⟨g1, 3, none⟩ (.int .u8 1)).setCell ⟨g1, 4, none⟩ (.int .u8 97))) := ((unhide HB1).setCell hg1 _).setCell hg1 _
          have HYc : Hid (Byt ((w1.setCell ⟨g1, 3, none⟩ (.int .u8 1)).setCell ⟨g1, 4, none⟩ (.int .u8 97)) (.slice (some ⟨g1, 0, none⟩) 2 cap1) [48, (k : Int)]) := byt_set (by omega) (unhide HY1)
          have hsz1 : ((w1.setCell ⟨g1, 3, none⟩ (.int .u8 1)).setCell ⟨g1, 4, none⟩ (.int .u8 97)).heap.size = w1.heap.size := by simp
          clear hb1 hob1 hz1 HAP1 HY1
          have hsl : slim ((k : Int) + 2) = (k : Int) + 2 := by unfold slim; rw [if_neg (by omega), if_neg (by omega)]
          have hsl2 : slim ((k : Int) + 2 - 1) = (k : Int) + 1 := by unfold slim; rw [if_neg (by omega), if_neg (by omega)]; omega
          have HN1 := hide (snew_any ((k : Int) + 2) ((w1.setCell ⟨g1, 3, none⟩ (.int .u8 1)).setCell ⟨g1, 4, none⟩ (.int .u8 97)))
          rw [hsl] at HN1
          go_wp2_with fail
          refine (unhide HN1).mono ?_
          rintro e w3 ⟨rfl, hw3⟩
          have HS3 : Hid (Str w3 ((w1.setCell ⟨g1, 3, none⟩ (.int .u8 1)).setCell ⟨g1, 4, none⟩ (.int .u8 97)).heap.size ((k : Int) + 2) 0 (.slice none 0 0) []) := by rw [hw3]; exact str_new _ _
          have HBd3 : Hid (Below ((w1.setCell ⟨g1, 3, none⟩ (.int .u8 1)).setCell ⟨g1, 4, none⟩ (.int .u8 97)).heap.size ((w1.setCell ⟨g1, 3, none⟩ (.int .u8 1)).setCell ⟨g1, 4, none⟩ (.int .u8 97)) w3) := by rw [hw3]; exact (Below.refl _ _).alloc (Nat.le_refl _) _
          have hs3 : w3.heap.size = ((w1.setCell ⟨g1, 3, none⟩ (.int .u8 1)).setCell ⟨g1, 4, none⟩ (.int .u8 97)).heap.size + 1 := by rw [hw3]; simp
          clear hw3 HN1 hsl
          have HN2 := hide (snew_any ((k : Int) + 2 - 1) w3)
          rw [hsl2] at HN2
          go_wp2_with fail
          refine (unhide HN2).mono ?_
          rintro e w4 ⟨rfl, hw4⟩
          have HT4 : Hid (Str w4 w3.heap.size ((k : Int) + 1) 0 (.slice none 0 0) []) := by rw [hw4]; exact str_new _ _
          have HBd4 : Hid (Below w3.heap.size w3 w4) := by rw [hw4]; exact (Below.refl _ _).alloc (Nat.le_refl _) _
          have hs4 : w4.heap.size = w3.heap.size + 1 := by rw [hw4]; simp
          clear hw4 HN2 hsl2
          have HS4 := hide ((unhide HS3).below (unhide HBd4))
          have HB24 : Hid (Below ((w1.setCell ⟨g1, 3, none⟩ (.int .u8 1)).setCell ⟨g1, 4, none⟩ (.int .u8 97)).heap.size ((w1.setCell ⟨g1, 3, none⟩ (.int .u8 1)).setCell ⟨g1, 4, none⟩ (.int .u8 97)) w4) := (unhide HBd3).trans ((unhide HBd4).mono (by omega))
          have HB4 : Hid (Below wr.heap.size wr w4) := (unhide HB2).trans ((unhide HB24).mono (unhide HB2).size)
          have HG4 := hide ((unhide HGr).below (unhide HB4) (unhide HGr).pos)
          clear HS3 HBd3 HBd4
          have HY4 := hide ((unhide HYc).below (unhide HB24))
          rw [hsz1] at hs3
          rw [hs3] at HT4
          go_wp2_with fail
          have hsr := (unhide HB2).size
          have HYt : Hid (Byt w4 (.slice (some ⟨g1, 0, none⟩) 2 cap1) [48, (k : Int)]) := by
            have h := (unhide HY4).take 2 (by omega)
            skip
            exact h
          refine (sfeed_ok (w1.heap.size + 1) ((k : Int) + 1) (.slice none 0 0) [] _ [48, (k : Int)] _ (unhide HG4) (unhide HT4) (unhide HYt) (by omega) (by simp)).mono ?_
          rintro e w6 ⟨v6, E6, qs6, Ps6, n6, m6, hv6, rfl, -, hrun6, -, -, hres6, -, hfb6⟩
          rw [List.nil_append] at hrun6
          obtain ⟨rfl, rfl, rfl⟩ := srun_stop hrun6 (lim_facts k (by omega) (by omega)) (by decide)
          obtain ⟨x6, rfl, her6, hst6⟩ : ∃ x, E6 = .iface 149 x ∧ Er w6 1 (.iface 149 x) 2 ∧ Str w6 (w1.heap.size + 1) ((k : Int) + 1) 2 hv6 [] := by
            rcases hres6 with ⟨h1, _⟩ | ⟨_, ⟨x, rfl⟩, h2, h3⟩
            · exact absurd h1 (by decide)
            · exact ⟨x, rfl, h2, h3⟩
          obtain ⟨aoh, caph, rfl, -⟩ := own0 hst6.row
          have HB6 : Hid (Below wr.heap.size wr w6) := hfb6.bel (unhide HB4) (unhide HB4).size (by omega) (fun g e => by cases e)
          have hs6 := (unhide HB6).size
          have HE6 := hide her6
          have HS6 := hide hst6
          clear hrun6 hres6 hfb6 her6 hst6 HYt HT4 HY4 HB4 HG4
          have HA7 : Hid (Below w6.heap.size w6 (w6.alloc (.cells #[.int .u8 192, .int .u8 0] 5))) := (Below.refl _ _).alloc (Nat.le_refl _) _
          go_wp2_with fail
          refine (sfeed_bad (w1.heap.size + 1) ((k : Int) + 1) 2 (.slice aoh 0 caph) [] _ [192, 0] _ ((unhide HS6).below (unhide HA7)) (ping_byt w6) (by decide)).mono ?_
          rintro e w8 ⟨x8, rfl, her8, hb8⟩
          have HB68 : Hid (Below w6.heap.size w6 w8) := (unhide HA7).trans (hb8.mono (unhide HA7).size)
          have HB8 : Hid (Below wr.heap.size wr w8) := (unhide HB6).trans ((unhide HB68).mono hs6)
          have HG8 := hide ((unhide HGr).below (unhide HB8) (unhide HGr).pos)
          have HF8 := hide (Er.below (unhide HB68) (unhide HE6))
          have HE8 := hide her8
          have HS8 := hide ((unhide HS6).below (unhide HB68))
          clear hb8 her8 HA7 HB68 HB6 HS6 HE6
          go_wp2_with (first
            | (go_at_call 43; refine (num5 _ 2 _ (unhide HG8) (.inr ⟨1, by decide, unhide HF8⟩)).mono ?_; rintro e w9 ⟨rfl, hb9⟩; have HB9 : Hid (Below wr.heap.size wr w9) := (unhide HB8).trans (hb9.mono (unhide HB8).size); have HG9 := hide ((unhide HGr).below (unhide HB9) (unhide HGr).pos); have HE9 := hide (Er.below hb9 (unhide HE8)); have HS9 := hide ((unhide HS8).below hb9); clear hb9 HB8 HG8 HE8 HS8 HF8)
            | (go_at_call 43; refine (num5 _ 2 _ (unhide HG9) (.inr ⟨1, by decide, unhide HE9⟩)).mono ?_; rintro e w10 ⟨rfl, hb10⟩; have HB10 : Hid (Below wr.heap.size wr w10) := (unhide HB9).trans (hb10.mono (unhide HB9).size); have c10 := ((unhide HS9).below hb10).c1; clear hb10 HB9 HG9 HE9 HS9)
            | (go_at_call 45; refine (sheld_any (w1.heap.size + 1) aoh 0 caph _ c10).mono ?_; rintro e w11 ⟨rfl, hw11⟩; obtain rfl := hw11.symm; clear hw11))
          exact ⟨⟨k + 1, by omega, by congr 1 <;> omega, (unhide HBW).trans ((unhide HB10).mono (unhide HBW).size)⟩, by simp [intOf]; omega⟩
        · by_cases hk1 : 1 ≤ k
          · have h60 : ((k : Int) + 2) < 60 := by omega
            have HAP1 : Hid (∃ v w', (Builtin.append_ #[31, 3] 31 #[.slice (some ⟨wr.heap.size, 0, none⟩) 2 2, .int .i64 (k : Int)]).run Tryz.prog (wr.alloc (.cells #[.int .u8 48, .int .u8 (k : Int)] 5)) = .ok v w' ∧ Zrow wr (48 :: (k : Int) :: List.replicate k 0) v w') := zeros_row [48, (k : Int)] k (by simp) (by simp; omega) wr (fun W' => app0_two _ W')
            go_wp2_with (first | (at_builtin; refine wpList_append_run _ rfl _ _ 31 3 rfl _ _ rfl rfl (unhide HAP1) ?_) | fail)
            intro v1 w1 hz1
            obtain ⟨g1, cap1, hv1, hob1, hb1⟩ := hz1.open_ (by simp)
            have HB1 := hide hb1
            have hg1 := hob1.at_
            have hlen1 : (48 :: (k : Int) :: List.replicate k 0).length = k + 2 := by simp
            rw [hlen1] at hv1
            subst hv1
            have hcp1 : k + 2 ≤ cap1 := by have := hob1.cap1; rw [hlen1] at this; exact this
            have HY1 : Hid (Byt w1 (.slice (some ⟨g1, 0, none⟩) (k + 2) cap1) (48 :: (k : Int) :: List.replicate k 0)) := by
              have h := hob1.byt (two_range k (by omega))
              rw [hlen1] at h
              exact h
            have hg1b : g1 < w1.heap.size := cell_lt (hob1.cell 0 (by simp)).1
            have HB2 := HB1
            clear hb1 hob1 hz1 HAP1
            have hsl : slim ((k : Int) + 2) = (k : Int) + 2 := by unfold slim; rw [if_neg (by omega), if_neg (by omega)]
            have hsl2 : slim ((k : Int) + 2 - 1) = (k : Int) + 1 := by unfold slim; rw [if_neg (by omega), if_neg (by omega)]; omega
            have HN1 := hide (snew_any ((k : Int) + 2) w1)
            rw [hsl] at HN1
            go_wp2_with fail
            refine (unhide HN1).mono ?_
            rintro e w3 ⟨rfl, hw3⟩
            have HS3 : Hid (Str w3 w1.heap.size ((k : Int) + 2) 0 (.slice none 0 0) []) := by rw [hw3]; exact str_new _ _
            have HBd3 : Hid (Below w1.heap.size w1 w3) := by rw [hw3]; exact (Below.refl _ _).alloc (Nat.le_refl _) _
            have hs3 : w3.heap.size = w1.heap.size + 1 := by rw [hw3]; simp
            clear hw3 HN1 hsl
            have HN2 := hide (snew_any ((k : Int) + 2 - 1) w3)
            rw [hsl2] at HN2
            go_wp2_with fail
            refine (unhide HN2).mono ?_
            rintro e w4 ⟨rfl, hw4⟩
            have HT4 : Hid (Str w4 w3.heap.size ((k : Int) + 1) 0 (.slice none 0 0) []) := by rw [hw4]; exact str_new _ _
            have HBd4 : Hid (Below w3.heap.size w3 w4) := by rw [hw4]; exact (Below.refl _ _).alloc (Nat.le_refl _) _
            have hs4 : w4.heap.size = w3.heap.size + 1 := by rw [hw4]; simp
            clear hw4 HN2 hsl2
            have HS4 := hide ((unhide HS3).below (unhide HBd4))
            have HB24 : Hid (Below w1.heap.size w1 w4) := (unhide HBd3).trans ((unhide HBd4).mono (by omega))
            have HB4 : Hid (Below wr.heap.size wr w4) := (unhide HB2).trans ((unhide HB24).mono (unhide HB2).size)
            have HG4 := hide ((unhide HGr).below (unhide HB4) (unhide HGr).pos)
            clear HS3 HBd3 HBd4
            have HY4 := hide ((unhide HY1).below (unhide HB24))
            rw [hs3] at HT4
            go_wp2_with fail
            have hsr := (unhide HB2).size
            have HYt : Hid (Byt w4 (.slice (some ⟨g1, 0, none⟩) 2 cap1) [48, (k : Int)]) := by
              have h := (unhide HY4).take 2 (by omega)
              skip
              exact h
            refine (sfeed_ok (w1.heap.size + 1) ((k : Int) + 1) (.slice none 0 0) [] _ [48, (k : Int)] _ (unhide HG4) (unhide HT4) (unhide HYt) (by omega) (by simp)).mono ?_
            rintro e w6 ⟨v6, E6, qs6, Ps6, n6, m6, hv6, rfl, -, hrun6, -, -, hres6, -, hfb6⟩
            rw [List.nil_append] at hrun6
            obtain ⟨rfl, rfl, rfl⟩ := srun_stop hrun6 (lim_facts k (by omega) (by omega)) (by decide)
            obtain ⟨x6, rfl, her6, hst6⟩ : ∃ x, E6 = .iface 149 x ∧ Er w6 1 (.iface 149 x) 2 ∧ Str w6 (w1.heap.size + 1) ((k : Int) + 1) 2 hv6 [] := by
              rcases hres6 with ⟨h1, _⟩ | ⟨_, ⟨x, rfl⟩, h2, h3⟩
              · exact absurd h1 (by decide)
              · exact ⟨x, rfl, h2, h3⟩
            obtain ⟨aoh, caph, rfl, -⟩ := own0 hst6.row
            have HB6 : Hid (Below wr.heap.size wr w6) := hfb6.bel (unhide HB4) (unhide HB4).size (by omega) (fun g e => by cases e)
            have hs6 := (unhide HB6).size
            have HE6 := hide her6
            have HS6 := hide hst6
            clear hrun6 hres6 hfb6 her6 hst6 HYt HT4 HY4 HB4 HG4
            have HA7 : Hid (Below w6.heap.size w6 (w6.alloc (.cells #[.int .u8 192, .int .u8 0] 5))) := (Below.refl _ _).alloc (Nat.le_refl _) _
            go_wp2_with fail
            refine (sfeed_bad (w1.heap.size + 1) ((k : Int) + 1) 2 (.slice aoh 0 caph) [] _ [192, 0] _ ((unhide HS6).below (unhide HA7)) (ping_byt w6) (by decide)).mono ?_
            rintro e w8 ⟨x8, rfl, her8, hb8⟩
            have HB68 : Hid (Below w6.heap.size w6 w8) := (unhide HA7).trans (hb8.mono (unhide HA7).size)
            have HB8 : Hid (Below wr.heap.size wr w8) := (unhide HB6).trans ((unhide HB68).mono hs6)
            have HG8 := hide ((unhide HGr).below (unhide HB8) (unhide HGr).pos)
            have HF8 := hide (Er.below (unhide HB68) (unhide HE6))
            have HE8 := hide her8
            have HS8 := hide ((unhide HS6).below (unhide HB68))
            clear hb8 her8 HA7 HB68 HB6 HS6 HE6
            go_wp2_with (first
              | (go_at_call 43; refine (num5 _ 2 _ (unhide HG8) (.inr ⟨1, by decide, unhide HF8⟩)).mono ?_; rintro e w9 ⟨rfl, hb9⟩; have HB9 : Hid (Below wr.heap.size wr w9) := (unhide HB8).trans (hb9.mono (unhide HB8).size); have HG9 := hide ((unhide HGr).below (unhide HB9) (unhide HGr).pos); have HE9 := hide (Er.below hb9 (unhide HE8)); have HS9 := hide ((unhide HS8).below hb9); clear hb9 HB8 HG8 HE8 HS8 HF8)
              | (go_at_call 43; refine (num5 _ 2 _ (unhide HG9) (.inr ⟨1, by decide, unhide HE9⟩)).mono ?_; rintro e w10 ⟨rfl, hb10⟩; have HB10 : Hid (Below wr.heap.size wr w10) := (unhide HB9).trans (hb10.mono (unhide HB9).size); have c10 := ((unhide HS9).below hb10).c1; clear hb10 HB9 HG9 HE9 HS9)
              | (go_at_call 45; refine (sheld_any (w1.heap.size + 1) aoh 0 caph _ c10).mono ?_; rintro e w11 ⟨rfl, hw11⟩; obtain rfl := hw11.symm; clear hw11))
            exact ⟨⟨k + 1, by omega, by congr 1 <;> omega, (unhide HBW).trans ((unhide HB10).mono (unhide HBW).size)⟩, by simp [intOf]; omega⟩
          · have h60 : ((k : Int) + 2) < 60 := by omega
            have HAP1 : Hid (∃ v w', (Builtin.append_ #[31, 3] 31 #[.slice (some ⟨wr.heap.size, 0, none⟩) 2 2, .int .i64 (k : Int)]).run Tryz.prog (wr.alloc (.cells #[.int .u8 48, .int .u8 (k : Int)] 5)) = .ok v w' ∧ Zrow wr (48 :: (k : Int) :: List.replicate k 0) v w') := zeros_row [48, (k : Int)] k (by simp) (by simp; omega) wr (fun W' => app0_two _ W')
            go_wp2_with (first | (at_builtin; refine wpList_append_run _ rfl _ _ 31 3 rfl _ _ rfl rfl (unhide HAP1) ?_) | fail)
            intro v1 w1 hz1
            obtain ⟨g1, cap1, hv1, hob1, hb1⟩ := hz1.open_ (by simp)
            have HB1 := hide hb1
            have hg1 := hob1.at_
            have hlen1 : (48 :: (k : Int) :: List.replicate k 0).length = k + 2 := by simp
            rw [hlen1] at hv1
            subst hv1
            have hcp1 : k + 2 ≤ cap1 := by have := hob1.cap1; rw [hlen1] at this; exact this
            have HY1 : Hid (Byt w1 (.slice (some ⟨g1, 0, none⟩) (k + 2) cap1) (48 :: (k : Int) :: List.replicate k 0)) := by
              have h := hob1.byt (two_range k (by omega))
              rw [hlen1] at h
              exact h
            have hg1b : g1 < w1.heap.size := cell_lt (hob1.cell 0 (by simp)).1
            have HB2 := HB1
            clear hb1 hob1 hz1 HAP1 HY1
            have HN1 := hide (snew_any ((k : Int) + 2) w1)
            go_wp2_with fail
            refine (unhide HN1).mono ?_
            rintro e w3 ⟨rfl, hw3⟩
            have HBd3 : Hid (Below wr.heap.size wr w3) := by rw [hw3]; exact (unhide HB1).alloc (unhide HB1).size _
            clear hw3 HN1
            have HN2 := hide (snew_any ((k : Int) + 2 - 1) w3)
            go_wp2_with fail
            refine (unhide HN2).mono ?_
            rintro e w4 ⟨rfl, hw4⟩
            have HB10 : Hid (Below wr.heap.size wr w4) := by rw [hw4]; exact (unhide HBd3).alloc (unhide HBd3).size _
            clear hw4 HN2
            go_wp2_with fail
            exact ⟨⟨k + 1, by omega, by congr 1 <;> omega, (unhide HBW).trans ((unhide HB10).mono (unhide HBW).size)⟩, by simp [intOf]; omega⟩
    · have h60 : ¬ ((k : Int) + 2) < 60 := by omega
      have hcL : wr.cell? ⟨w.heap.size, 1, none⟩ = some (.slice ao len cap) := (World.cell?_of_block (a := ⟨w.heap.size, 1, none⟩) ((unhide HBW).block _ hsz0)).trans (unhide HCL)
      go_wp2_with (go_at_call 47; refine (wakes5 _ (unhide HGr)).mono ?_; rintro e w9 ⟨rfl, hb9⟩)
      go_ret
      exact ⟨rfl, (unhide HW0).trans (((unhide HBW).mono (unhide HW0).size).trans (hb9.mono (by have := (unhide HBW).size; omega)))⟩
end Go.Proofs.YtpoeakillimibaaGreatDoor.K
