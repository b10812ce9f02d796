/- Proved here: helpers, one text behind the other. -/
import Derived.Test.YtoocdfgjkeheaaaGreatDoorM4
import Derived.Laws.AppendOwn
import Derived.Test.YtoocdfgjkeheaaaGreatDoorM1
import Derived.Handy
/- Proved here: packet's reader: connect. Helper contracts. -/
namespace Go.Proofs.YtoocdfgjkeheaaaGreatDoor.K
open Go.RowKit
set_option maxRecDepth 100000

def ConnPost (w0 : World) (R : Nat) (p : Pkv) (st : Option (List Int)) (w : World) (e : Ending) (w' : World) : Prop :=
  e = .returned (.tuple #[]) ∧ ∃ (n : Cn) (V U Q N : Nat) (tp : Sl) (st' : Option (List Int)), Pk w' R { p with clean := btest n.x 2, wills := isW V (btest n.x 4), user := isW U (btest n.x 128), pass := isW Q (btest n.x 64), keep := n.keep, props := tp, client := n.client } ∧ Hid (w'.ownsRow w.heap.size 120 4 tp.val n.props.length (pcs n.props)) ∧ w.heap.size ≤ N ∧ Hid (WillAt w.heap.size N R w' n.x V n.will) ∧ Hid (StrAt w.heap.size R w' (btest n.x 128) U n.user) ∧ Hid (StrAt w.heap.size R w' (btest n.x 64) Q n.pass) ∧ Stp connect? st n st' ∧ RS w0 w' R st' ∧ BX R isAny w w'
set_option maxHeartbeats 8000000 in
theorem connect_any (R : Nat) (p : Pkv) (st : Option (List Int)) (w0 w : World) (h : RS w0 w R st) (hp : Pk w R p) (hk : p.kind = 1) (hn1 : p.wills = ⟨none, 0, 0⟩) (hn2 : p.user = ⟨none, 0, 0⟩) (hn3 : p.pass = ⟨none, 0, 0⟩) : Calls Tryz.prog 117 #[.pointer (some ⟨R, 0, none⟩)] w (ConnPost w0 R p st w) := by
  have hlt := h.lt
  have HP := hide hp
  have HS := hide h
  have HK := hide hk
  have HN1 := hide hn1
  have HN2 := hide hn2
  have HN3 := hide hn3
  clear hp h hk hn1 hn2 hn3
  go_enter Tryz.func117, Tryz.ntmps117
  go_wp2_with fail
  refine (text_any R st w0 w (unhide HS)).mono ?_
  rintro e w1 ⟨m, st1, rfl, -, hs1, h1, hx1⟩
  have HS1 := hide h1
  have HX1 := hide hx1
  have HST1 := hide hs1
  clear h1 hx1 hs1
  go_wp2_with fail
  refine (must_any R _ st1 w0 w1 (unhide HS1)).mono ?_
  rintro e w2 ⟨rfl, h2, hx2⟩
  have HS2 := hide h2
  have HX2 : Hid (BX R isRE w w2) := (unhide HX1).trans hx2
  clear h2 hx2 HX1 HS1
  go_wp2_with fail
  refine (one_any R _ w0 w2 (unhide HS2)).mono ?_
  rintro e w3 ⟨v, st3, rfl, -, hs3, h3, hx3⟩
  have HS3 := hide h3
  have HX3 : Hid (BX R isRE w w3) := (unhide HX2).trans hx3
  have HST3 := hide hs3
  clear h3 hx3 hs3 HX2 HS2
  go_wp2_with fail
  refine (must_any R _ st3 w0 w3 (unhide HS3)).mono ?_
  rintro e w4 ⟨rfl, h4, hx4⟩
  have HX4 : Hid (BX R isRE w w4) := (unhide HX3).trans hx4
  have HP4 := hide ((unhide HP).bx (unhide HX4))
  have HS4 := hide h4
  clear h4 hx4 HX3 HS3
  go_wp2_with fail
  refine (rflags_any R p _ w0 w4 (unhide HS4) (unhide HP4) (unhide HN1) (unhide HN2) (unhide HN3)).mono ?_
  rintro e w5 ⟨rfl, x, V, U, Q, st5, hx, hp5, hR5, hs5, h5, hx5⟩
  have HX5 : Hid (BX R isAny w w5) := (unhide HX4).any.trans hx5
  have hsz4 : w.heap.size ≤ w4.heap.size := (unhide HX4).size
  have hsz45 : w4.heap.size ≤ w5.heap.size := hx5.size
  have HS5 := hide h5
  have HP5 := hide hp5
  have HST5 := hide hs5
  clear h5 hx5 hs5 hp5 HX4 HS4 HP4
  go_wp2_with fail
  refine (two_any R st5 w0 w5 (unhide HS5)).mono ?_
  rintro e w6 ⟨k, st6, rfl, hk6, hs6, h6, hx6⟩
  have hp6 := (unhide HP5).bx hx6
  have c10 := hp6.keep
  have f10 := hp6.keep_f
  have HP6 := hide (hp6.set_keep k)
  have HS6 := hide (h6.set 10 (.int .i64 k) (by decide))
  have HX6 : Hid (BX R isAny w (w6.setCell ⟨R, 10, none⟩ (.int .i64 k))) := ((unhide HX5).trans hx6.any).set 10 _ trivial
  have HXR6 : Hid (BX R isAny w5 (w6.setCell ⟨R, 10, none⟩ (.int .i64 k))) := (hx6.any).set 10 _ trivial
  have HST6 := hide hs6
  have c0 : w6.cell? ⟨R, 0, none⟩ = some (.int .i64 1) := hp6.kind.trans (congrArg (fun z => some (Value.int .i64 z)) (unhide HK))
  clear h6 hx6 hs6 hp6 HX5 HS5 HP5 hk6
  go_wp2_with fail
  refine (props_any R 1 st6 w0 _ (unhide HS6)).mono ?_
  rintro e w7 ⟨tp, pr, st7, rfl, hO7, hs7, h7, hx7⟩
  have hp7 := (unhide HP6).bx hx7
  have c7 := hp7.props
  have f7 := hp7.props_f
  have HP7 := hide (hp7.set_props tp)
  have HS7 := hide (h7.set 7 tp.val (by decide))
  have HX7 : Hid (BX R isAny w (w7.setCell ⟨R, 7, none⟩ tp.val)) := ((unhide HX6).trans hx7.any).set 7 _ trivial
  have HXR7 : Hid (BX R isAny w5 (w7.setCell ⟨R, 7, none⟩ tp.val)) := ((unhide HXR6).trans hx7.any).set 7 _ trivial
  obtain ⟨M, hM⟩ : ∃ M, M = (w6.setCell ⟨R, 10, none⟩ (.int .i64 k)).heap.size := ⟨_, rfl⟩
  have hM0 : w.heap.size ≤ M := by rw [hM]; exact (unhide HX6).size
  have hM5 : w5.heap.size ≤ M := by rw [hM]; exact (unhide HXR6).size
  rw [← hM] at hO7
  have HO7 : Hid ((w7.setCell ⟨R, 7, none⟩ tp.val).ownsRow M 120 4 tp.val pr.length (pcs pr)) := owns_bx (unhide hO7) ((BX.refl R isAny w7).set 7 _ trivial) (Nat.lt_of_lt_of_le hlt hM0)
  have hM7 : M ≤ (w7.setCell ⟨R, 7, none⟩ tp.val).heap.size := by rw [hM]; simpa [World.setCell] using hx7.size
  clear hM
  have HST7 := hide hs7
  clear h7 hx7 hs7 hp7 hO7 HX6 HS6 HP6 HXR6 c10 f10 c0
  go_wp2_with fail
  refine (text_any R st7 w0 _ (unhide HS7)).mono ?_
  rintro e w8 ⟨c, st8, rfl, -, hs8, h8, hx8⟩
  have hp8 := (unhide HP7).bx hx8
  have c8 := hp8.client
  have f8 := hp8.client_f
  have HP8 : Hid (Pk (w8.setCell ⟨R, 8, none⟩ (.string c)) R { p with clean := btest x 2, wills := isW V (btest x 4), user := isW U (btest x 128), pass := isW Q (btest x 64), keep := k, props := tp, client := c }) := hp8.set_client c
  have HS8 := hide (h8.set 8 (.string c) (by decide))
  have HX8 : Hid (BX R isAny w (w8.setCell ⟨R, 8, none⟩ (.string c))) := ((unhide HX7).trans hx8.any).set 8 _ trivial
  have HXR8 : BX R isAny w5 (w8.setCell ⟨R, 8, none⟩ (.string c)) := ((unhide HXR7).trans hx8.any).set 8 _ trivial
  have HV8 : Hid (Rm w4.heap.size R (w8.setCell ⟨R, 8, none⟩ (.string c)) (btest x 4) V (willO x)) := (unhide hR5).v.bx HXR8
  have HU8 : Hid (Rm w4.heap.size R (w8.setCell ⟨R, 8, none⟩ (.string c)) (btest x 128) U strO) := (unhide hR5).u.bx HXR8
  have HQ8 : Hid (Rm w4.heap.size R (w8.setCell ⟨R, 8, none⟩ (.string c)) (btest x 64) Q strO) := (unhide hR5).q.bx HXR8
  have HNE := hide (And.intro (unhide hR5).vu (And.intro (unhide hR5).vq (unhide hR5).uq))
  have HO8 : Hid ((w8.setCell ⟨R, 8, none⟩ (.string c)).ownsRow M 120 4 tp.val pr.length (pcs pr)) := owns_bx (unhide HO7) ((hx8.any).set 8 _ trivial) (Nat.lt_of_lt_of_le hlt hM0)
  have HVM : Hid ((btest x 4 = true → V < M) ∧ (btest x 128 = true → U < M) ∧ (btest x 64 = true → Q < M)) := ⟨fun h => Nat.lt_of_lt_of_le ((unhide hR5).v.2.2 h).1 hM5, fun h => Nat.lt_of_lt_of_le ((unhide hR5).u.2.2 h).1 hM5, fun h => Nat.lt_of_lt_of_le ((unhide hR5).q.2.2 h).1 hM5⟩
  have HST8 : Hid (∀ wl us pa st9 st10 st11, Stp (will? x) st8 wl st9 → Stp (user? x) st9 us st10 → Stp (pass? x) st10 pa st11 → Stp connect? st ⟨x, k, pr, c, wl, us, pa⟩ st11) := fun wl us pa st9 st10 st11 k1 k2 k3 =>
    (unhide HST1).bind ((Stp.must _ st1).bind ((unhide HST3).bind ((Stp.must _ st3).bind ((unhide HST5).bind ((unhide HST6).bind ((unhide HST7).bind (hs8.bind (k1.bind (k2.bind (k3.bind (Stp.pure _ _)))))))))))
  have HX8s : Hid (w4.heap.size ≤ (w8.setCell ⟨R, 8, none⟩ (.string c)).heap.size) := Nat.le_trans hsz45 HXR8.size
  have HM8 : Hid (M ≤ (w8.setCell ⟨R, 8, none⟩ (.string c)).heap.size) := Nat.le_trans hM7 (by simpa [World.setCell] using hx8.size)
  clear h8 hx8 hs8 hp8 hR5 HO7 HX7 HS7 HP7 HXR7 HXR8 c7 f7 HST1 HST3 HST5 HST6 HST7
  go_upto_region 7 with fail
  generalize hW : w8.setCell ⟨R, 8, none⟩ (.string c) = w9 at HX8s HM8 HP8 HS8 HX8 HV8 HU8 HQ8 HO8 ⊢
  have c11 : w9.cell? ⟨R, 11, none⟩ = some (.slice (isW V (btest x 4)).ao (isW V (btest x 4)).n (isW V (btest x 4)).cap) := (unhide HP8).wills
  have hlt9 : R < w9.heap.size := (unhide HS8).lt
  have hs49 : w4.heap.size ≤ w9.heap.size := (unhide HX8s)
  have hM9 : M ≤ w9.heap.size := unhide HM8
  have h0w : w0.heap.size ≤ w4.heap.size := Nat.le_trans (unhide HS).keep.size hsz4
  clear hW c8 f8
  go_upto_block 0 with fail
  go_cut [] from 3 (fun wx => ∃ wl st9, Hid (RS w0 wx R st9) ∧ Hid (Pk wx R { p with clean := btest x 2, wills := isW V (btest x 4), user := isW U (btest x 128), pass := isW Q (btest x 64), keep := k, props := tp, client := c }) ∧ Hid (BX R isAny w wx) ∧ Hid (WillAt w4.heap.size w9.heap.size R wx x V wl) ∧ Hid (Rm w4.heap.size R wx (btest x 128) U strO) ∧ Hid (Rm w4.heap.size R wx (btest x 64) Q strO) ∧ Hid (wx.ownsRow M 120 4 tp.val pr.length (pcs pr)) ∧ Hid (Stp (will? x) st8 wl st9) ∧ w9.heap.size ≤ wx.heap.size)
  case first =>
    cases h4 : btest x 4
    · rw [h4] at c11
      rw [show isW V false = ⟨none, 0, 0⟩ from rfl] at c11 ⊢
      go_wp2
      refine wp_loop_rounds 1 ?_
      rw [rounds_succ]
      go_wp2
      go_meet
      case rel =>
        refine ⟨none, st8, HS8, HP8, HX8, ⟨fun _ => rfl, fun h => by rw [h4] at h; cases h⟩, HU8, HQ8, HO8, ?_, Nat.le_refl _⟩
        show Stp (will? x) st8 none st8
        unfold will?
        rw [h4]
        exact Stp.pure _ _
    · rw [h4] at c11
      rw [show isW V true = ⟨some ⟨V, 0, none⟩, 1, 1⟩ from rfl] at c11 ⊢
      obtain ⟨hV0, hVR, hVb⟩ := unhide HV8
      obtain ⟨hVl, hVh⟩ := hVb h4
      have hVM := (unhide HVM).1 h4
      have hVh0 : Hid (w9.heap[V]? = some (.cells #[.string ⟨#[]⟩, .string ⟨#[]⟩, .int .i64 (x / 8 % 4), .bool (btest x 32), .slice none 0 0] 73)) := hVh
      clear hVb hVh
      have HU9 : Hid (btest x 128 = true → U ≠ V) := fun h e => (unhide HNE).1 h4 h e.symm
      have HQ9 : Hid (btest x 64 = true → Q ≠ V) := fun h e => (unhide HNE).2.1 h4 h e.symm
      go_wp2
      refine wp_loop_rounds 2 ?_
      rw [rounds_succ]
      go_wp2_with fail
      refine (props_any R 16 st8 w0 w9 (unhide HS8)).mono ?_
      rintro e w10 ⟨tq, q, st10, rfl, hO10, hs10, h10, hx10⟩
      have b10 : w10.heap[V]? = some (.cells #[.string ⟨#[]⟩, .string ⟨#[]⟩, .int .i64 (x / 8 % 4), .bool (btest x 32), .slice none 0 0] 73) := (hx10.block V hVl hVR).trans (unhide hVh0)
      have v4 : w10.cell? ⟨V, 4, none⟩ = some (.slice none 0 0) := by simp [World.cell?, b10]
      have g4 : w10.frozen? ⟨V, 4, none⟩ = false := by simp [World.frozen?, b10]
      have hVl10 : V < w10.heap.size := Nat.lt_of_lt_of_le hVl hx10.size
      have BV10 : Hid ((w10.setCell ⟨V, 4, none⟩ tq.val).heap[V]? = some (.cells #[.string ⟨#[]⟩, .string ⟨#[]⟩, .int .i64 (x / 8 % 4), .bool (btest x 32), Sl.val tq] 73)) := by
        have k := heap_set (j := 4) (u := tq.val) b10
        show _ = _
        simpa using k
      have HS10 : Hid (RS w0 (w10.setCell ⟨V, 4, none⟩ tq.val) R st10) := h10.setOut V 4 _ hVR (Nat.le_trans h0w hV0) (fun t y e => by simp [World.cell?, b10] at e)
      have HX10 : Hid (BX R isAny w (w10.setCell ⟨V, 4, none⟩ tq.val)) := ((unhide HX8).trans hx10.any).setOut V 4 _ (Nat.le_trans hsz4 hV0) hlt
      have HO10 : Hid ((w10.setCell ⟨V, 4, none⟩ tq.val).ownsRow w9.heap.size 120 4 tq.val q.length (pcs q)) := owns_out (unhide hO10) hVl
      have HT10 : Hid ((w10.setCell ⟨V, 4, none⟩ tq.val).ownsRow M 120 4 tp.val pr.length (pcs pr)) := owns_out (owns_bx (unhide HO8) hx10 (Nat.lt_of_lt_of_le hlt hM0)) hVM
      have HP10 : Hid (Pk (w10.setCell ⟨V, 4, none⟩ tq.val) R { p with clean := btest x 2, wills := isW V (btest x 4), user := isW U (btest x 128), pass := isW Q (btest x 64), keep := k, props := tp, client := c }) := pk_out ((unhide HP8).bx hx10) hVR
      have HU10 : Hid (Rm w4.heap.size R (w10.setCell ⟨V, 4, none⟩ tq.val) (btest x 128) U strO) := ((unhide HU8).bx hx10).out (unhide HU9)
      have HQ10 : Hid (Rm w4.heap.size R (w10.setCell ⟨V, 4, none⟩ tq.val) (btest x 64) Q strO) := ((unhide HQ8).bx hx10).out (unhide HQ9)
      have HN10 : w9.heap.size ≤ (w10.setCell ⟨V, 4, none⟩ tq.val).heap.size := by simpa [World.setCell] using hx10.size
      have hl10 : V < (w10.setCell ⟨V, 4, none⟩ tq.val).heap.size := by simpa [World.setCell] using hVl10
      have HST10 := hide hs10
      clear hO10 hs10 h10 hx10 c11 b10
      go_wp2_with fail
      refine (text_any R st10 w0 _ (unhide HS10)).mono ?_
      rintro e w11 ⟨t, st11, rfl, -, hs11, h11, hx11⟩
      have b11 : w11.heap[V]? = some (.cells #[.string ⟨#[]⟩, .string ⟨#[]⟩, .int .i64 (x / 8 % 4), .bool (btest x 32), Sl.val tq] 73) := (hx11.block V hl10 hVR).trans (unhide BV10)
      have v0 : w11.cell? ⟨V, 0, none⟩ = some (.string ⟨#[]⟩) := by simp [World.cell?, b11]
      have g0 : w11.frozen? ⟨V, 0, none⟩ = false := by simp [World.frozen?, b11]
      have BV11 : Hid ((w11.setCell ⟨V, 0, none⟩ (.string t)).heap[V]? = some (.cells #[.string t, .string ⟨#[]⟩, .int .i64 (x / 8 % 4), .bool (btest x 32), Sl.val tq] 73)) := by
        have k := heap_set (j := 0) (u := .string t) b11
        show _ = _
        simpa using k
      have HS11 : Hid (RS w0 (w11.setCell ⟨V, 0, none⟩ (.string t)) R st11) := h11.setOut V 0 _ hVR (Nat.le_trans h0w hV0) (fun t y e => by simp [World.cell?, b11] at e)
      have HX11 : Hid (BX R isAny w (w11.setCell ⟨V, 0, none⟩ (.string t))) := ((unhide HX10).trans hx11.any).setOut V 0 _ (Nat.le_trans hsz4 hV0) hlt
      have HO11 : Hid ((w11.setCell ⟨V, 0, none⟩ (.string t)).ownsRow w9.heap.size 120 4 tq.val q.length (pcs q)) := owns_out (owns_bx (unhide HO10) hx11 hlt9) hVl
      have HT11 : Hid ((w11.setCell ⟨V, 0, none⟩ (.string t)).ownsRow M 120 4 tp.val pr.length (pcs pr)) := owns_out (owns_bx (unhide HT10) hx11 (Nat.lt_of_lt_of_le hlt hM0)) hVM
      have HP11 : Hid (Pk (w11.setCell ⟨V, 0, none⟩ (.string t)) R { p with clean := btest x 2, wills := isW V (btest x 4), user := isW U (btest x 128), pass := isW Q (btest x 64), keep := k, props := tp, client := c }) := pk_out ((unhide HP10).bx hx11) hVR
      have HU11 : Hid (Rm w4.heap.size R (w11.setCell ⟨V, 0, none⟩ (.string t)) (btest x 128) U strO) := ((unhide HU10).bx hx11).out (unhide HU9)
      have HQ11 : Hid (Rm w4.heap.size R (w11.setCell ⟨V, 0, none⟩ (.string t)) (btest x 64) Q strO) := ((unhide HQ10).bx hx11).out (unhide HQ9)
      have HN11 : w9.heap.size ≤ (w11.setCell ⟨V, 0, none⟩ (.string t)).heap.size := Nat.le_trans HN10 (by simpa [World.setCell] using hx11.size)
      have hl11 : V < (w11.setCell ⟨V, 0, none⟩ (.string t)).heap.size := Nat.lt_of_lt_of_le hl10 (by simpa [World.setCell] using hx11.size)
      have HST11 := hide hs11
      clear hs11 h11 hx11 b11 v4 g4 HS10 HX10 HO10 HT10 HP10 HU10 HQ10 HN10 BV10
      go_wp2_with fail
      refine (bin_any R st11 w0 _ (unhide HS11)).mono ?_
      rintro e w12 ⟨y, st12, rfl, -, hs12, h12, hx12⟩
      have b12 : w12.heap[V]? = some (.cells #[.string t, .string ⟨#[]⟩, .int .i64 (x / 8 % 4), .bool (btest x 32), Sl.val tq] 73) := (hx12.block V hl11 hVR).trans (unhide BV11)
      have v1 : w12.cell? ⟨V, 1, none⟩ = some (.string ⟨#[]⟩) := by simp [World.cell?, b12]
      have g1 : w12.frozen? ⟨V, 1, none⟩ = false := by simp [World.frozen?, b12]
      have BV12 : Hid ((w12.setCell ⟨V, 1, none⟩ (.string y)).heap[V]? = some (.cells #[.string t, .string y, .int .i64 (x / 8 % 4), .bool (btest x 32), Sl.val tq] 73)) := by
        have k := heap_set (j := 1) (u := .string y) b12
        show _ = _
        simpa using k
      have HS12 : Hid (RS w0 (w12.setCell ⟨V, 1, none⟩ (.string y)) R st12) := h12.setOut V 1 _ hVR (Nat.le_trans h0w hV0) (fun t y e => by simp [World.cell?, b12] at e)
      have HX12 : Hid (BX R isAny w (w12.setCell ⟨V, 1, none⟩ (.string y))) := ((unhide HX11).trans hx12.any).setOut V 1 _ (Nat.le_trans hsz4 hV0) hlt
      have HO12 : Hid ((w12.setCell ⟨V, 1, none⟩ (.string y)).ownsRow w9.heap.size 120 4 tq.val q.length (pcs q)) := owns_out (owns_bx (unhide HO11) hx12 hlt9) hVl
      have HT12 : Hid ((w12.setCell ⟨V, 1, none⟩ (.string y)).ownsRow M 120 4 tp.val pr.length (pcs pr)) := owns_out (owns_bx (unhide HT11) hx12 (Nat.lt_of_lt_of_le hlt hM0)) hVM
      have HP12 : Hid (Pk (w12.setCell ⟨V, 1, none⟩ (.string y)) R { p with clean := btest x 2, wills := isW V (btest x 4), user := isW U (btest x 128), pass := isW Q (btest x 64), keep := k, props := tp, client := c }) := pk_out ((unhide HP11).bx hx12) hVR
      have HU12 : Hid (Rm w4.heap.size R (w12.setCell ⟨V, 1, none⟩ (.string y)) (btest x 128) U strO) := ((unhide HU11).bx hx12).out (unhide HU9)
      have HQ12 : Hid (Rm w4.heap.size R (w12.setCell ⟨V, 1, none⟩ (.string y)) (btest x 64) Q strO) := ((unhide HQ11).bx hx12).out (unhide HQ9)
      have HN12 : w9.heap.size ≤ (w12.setCell ⟨V, 1, none⟩ (.string y)).heap.size := Nat.le_trans HN11 (by simpa [World.setCell] using hx12.size)
      have hl12 : V < (w12.setCell ⟨V, 1, none⟩ (.string y)).heap.size := Nat.lt_of_lt_of_le hl11 (by simpa [World.setCell] using hx12.size)
      have HST12 : Hid (Stp (will? x) st8 (some (q, t, y)) st12) := by
        show Stp _ _ _ _
        unfold will?
        rw [h4, if_pos rfl]
        exact (unhide HST10).bind ((unhide HST11).bind (hs12.bind (Stp.pure _ _)))
      clear hs12 h12 hx12 b12 v0 g0 HS11 HX11 HO11 HT11 HP11 HU11 HQ11 HN11 BV11
      go_wp2
      rw [rounds_succ]
      go_wp2
      go_meet
      case rel =>
        exact ⟨some (q, t, y), st12, HS12, HP12, HX12, ⟨(fun h => by rw [h4] at h; cases h), fun _ => ⟨q, t, y, tq, rfl, hV0, hVR, hl12, unhide BV12, unhide HO12⟩⟩, HU12, HQ12, HT12, HST12, HN12⟩
  case rest =>
  obtain ⟨wl, st9, HS9, HP9, HX9, HWL, HU, HQ, HO9, HST9, hN9⟩ := hcut
  obtain ⟨wb, hwb⟩ : ∃ wb, wb = wc := ⟨wc, rfl⟩
  subst hwb
  clear HP8 HS8 HX8 HV8 HU8 HQ8 HO8 c11
  have cU : wb.cell? ⟨R, 12, none⟩ = some (.slice (isW U (btest x 128)).ao (isW U (btest x 128)).n (isW U (btest x 128)).cap) := (unhide HP9).user
  go_upto_block 2 with fail
  go_cut [] from 3 (fun wx => ∃ us stu, Hid (RS w0 wx R stu) ∧ Hid (Pk wx R { p with clean := btest x 2, wills := isW V (btest x 4), user := isW U (btest x 128), pass := isW Q (btest x 64), keep := k, props := tp, client := c }) ∧ Hid (BX R isAny w wx) ∧ Hid (WillAt w4.heap.size w9.heap.size R wx x V wl) ∧ Hid (StrAt w4.heap.size R wx (btest x 128) U us) ∧ Hid (Rm w4.heap.size R wx (btest x 64) Q strO) ∧ Hid (wx.ownsRow M 120 4 tp.val pr.length (pcs pr)) ∧ Hid (Stp (user? x) st9 us stu) ∧ w9.heap.size ≤ wx.heap.size)
  case first =>
    cases hb : btest x 128
    · rw [hb] at cU
      rw [show isW U false = ⟨none, 0, 0⟩ from rfl] at cU ⊢
      go_wp2
      refine wp_loop_rounds 1 ?_
      rw [rounds_succ]
      go_wp2
      go_meet
      case rel =>
        refine ⟨none, st9, HS9, HP9, HX9, HWL, ⟨fun _ => rfl, fun h => by rw [hb] at h; cases h⟩, HQ, HO9, ?_, hN9⟩
        show Stp (user? x) st9 none st9
        unfold user?
        rw [hb]
        exact Stp.pure _ _
    · rw [hb] at cU
      rw [show isW U true = ⟨some ⟨U, 0, none⟩, 1, 1⟩ from rfl] at cU ⊢
      obtain ⟨hU0, hUR, hUb⟩ := unhide HU
      obtain ⟨hUl, hUh0⟩ := hUb hb
      have hUh := hide hUh0
      clear hUb hUh0
      have hUM := (unhide HVM).2.1 hb
      go_wp2
      refine wp_loop_rounds 2 ?_
      rw [rounds_succ]
      go_wp2_with fail
      refine wp_region_noPanic ?_
      refine wp_region_held_drew (S := (fun w' => w'.cell? ⟨R, 12, none⟩ = some (.slice (some ⟨U, 0, none⟩) 1 1))) (by kernel_rfl) (by simpa using cU) (fun hHeld => ?_)
      refine wpAnyH_take (i := 0) (oi := { dst := some 79, op := Op.move (Operand.tmp 2), type := 108, pos := "read.go:57", after := #[], guard := none }) (v := ?v8) rfl (by kernel_rfl) (by kernel_rfl) (by kernel_rfl) (fun _ _ _ h => h) (Or.inl ⟨by rfl, ?hy8⟩) (by assumption) ?rest8
      case hy8 => (intro w hSw; (try dsimp only at hSw); go_simp; (try rw [if_pos (by omega)]); (try with_reducible rfl))
      simp only [Act.put, List.setIfInBounds_toArray, List.set_cons_zero, List.set_cons_succ]
      refine wpAnyH_take (i := 1) (oi := { dst := some 80, op := Op.nilCheck (Operand.tmp 79), type := 0, pos := "read.go:57", after := #[{ on := 0, ground := Ground.data }], guard := none }) (v := ?v9) rfl (by kernel_rfl) (by kernel_rfl) (by kernel_rfl) (fun _ _ _ h => h) (Or.inl ⟨by rfl, ?hy9⟩) (by assumption) ?rest9
      case hy9 => (intro w hSw; (try dsimp only at hSw); go_simp; (try rw [if_pos (by omega)]); (try with_reducible rfl))
      simp only [Act.put, List.setIfInBounds_toArray, List.set_cons_zero, List.set_cons_succ]
      refine wpAnyH_take (i := 2) (oi := { dst := some 81, op := Op.fieldAddr 30 (Operand.tmp 80) 12, type := 0, pos := "read.go:57", after := #[{ on := 1, ground := Ground.data }], guard := none }) (v := ?v10) rfl (by kernel_rfl) (by kernel_rfl) (by kernel_rfl) (fun _ _ _ h => h) (Or.inl ⟨by rfl, ?hy10⟩) (by assumption) ?rest10
      case hy10 => (intro w hSw; (try dsimp only at hSw); go_simp; (try rw [if_pos (by omega)]); (try with_reducible rfl))
      simp only [Act.put, List.setIfInBounds_toArray, List.set_cons_zero, List.set_cons_succ]
      refine wpAnyH_take (i := 3) (oi := { dst := some 82, op := Op.load 26 (Operand.tmp 81), type := 26, pos := "read.go:57", after := #[{ on := 2, ground := Ground.data }], guard := none }) (v := ?v11) rfl (by kernel_rfl) (by kernel_rfl) (by kernel_rfl) (fun _ _ _ h => h) (Or.inl ⟨by rfl, ?hy11⟩) (by assumption) ?rest11
      case hy11 => (intro w hSw; (try dsimp only at hSw); go_simp; (try rw [if_pos (by omega)]); (try with_reducible rfl))
      simp only [Act.put, List.setIfInBounds_toArray, List.set_cons_zero, List.set_cons_succ]
      refine wpAnyH_take (i := 4) (oi := { dst := some 83, op := Op.move (Operand.tmp 5), type := 3, pos := "read.go:57", after := #[], guard := none }) (v := ?v12) rfl (by kernel_rfl) (by kernel_rfl) (by kernel_rfl) (fun _ _ _ h => h) (Or.inl ⟨by rfl, ?hy12⟩) (by assumption) ?rest12
      case hy12 => (intro w hSw; (try dsimp only at hSw); go_simp; (try rw [if_pos (by omega)]); (try with_reducible rfl))
      simp only [Act.put, List.setIfInBounds_toArray, List.set_cons_zero, List.set_cons_succ]
      refine wpAnyH_take (i := 5) (oi := { dst := some 84, op := Op.move (Operand.tmp 0), type := 143, pos := "read.go:57", after := #[], guard := none }) (v := ?v13) rfl (by kernel_rfl) (by kernel_rfl) (by kernel_rfl) (fun _ _ _ h => h) (Or.inl ⟨by rfl, ?hy13⟩) (by assumption) ?rest13
      case hy13 => (intro w hSw; (try dsimp only at hSw); go_simp; (try rw [if_pos (by omega)]); (try with_reducible rfl))
      simp only [Act.put, List.setIfInBounds_toArray, List.set_cons_zero, List.set_cons_succ]
      refine wpAnyH_ready (rs := [6]) (by kernel_rfl) (by simp) ?_
      refine AllReadyH.cons (o := { dst := some 85, op := Op.call { callee := Callee.value (Operand.func 161), args := #[Operand.tmp 84], argTypes := #[143] }, type := 9, pos := "read.go:57", after := #[{ on := 5, ground := Ground.data }], guard := none }) rfl (fun K hK => ?_) AllReadyH.nil
      go_simp
      refine (text_any R st9 w0 _ ((unhide HS9).below (bel_drew wb))).mono ?_
      rintro e w20 ⟨t, stu, rfl, -, hs20, h20, hx20⟩
      have hxw : BX R isRE wb w20 := (BX.of_below (bel_drew wb) (unhide HS9).lt).trans hx20
      have hcU : w20.cell? ⟨R, 12, none⟩ = some (.slice (some ⟨U, 0, none⟩) 1 1) := (hxw.cell 12 (by unfold isRE; omega)).trans cU
      have b20 : w20.heap[U]? = some strO := (hxw.block U hUl hUR).trans (unhide hUh)
      have v0 : w20.cell? ⟨U, 0, none⟩ = some (.string ⟨#[]⟩) := by simp [World.cell?, b20]
      have g0 : w20.frozen? ⟨U, 0, none⟩ = false := by simp [World.frozen?, b20]
      have BU : Hid ((w20.setCell ⟨U, 0, none⟩ (.string t)).heap[U]? = some (.cells #[.string t] 9)) := by
        have k := heap_set (j := 0) (u := .string t) b20
        show _ = _
        simpa using k
      have HS20 : Hid (RS w0 (w20.setCell ⟨U, 0, none⟩ (.string t)) R stu) := h20.setOut U 0 _ hUR (Nat.le_trans h0w hU0) (fun t y e => by simp [World.cell?, b20] at e)
      have HX20 : Hid (BX R isAny w (w20.setCell ⟨U, 0, none⟩ (.string t))) := ((unhide HX9).trans hxw.any).setOut U 0 _ (Nat.le_trans hsz4 hU0) hlt
      have HT20 : Hid ((w20.setCell ⟨U, 0, none⟩ (.string t)).ownsRow M 120 4 tp.val pr.length (pcs pr)) := owns_out (owns_bx (unhide HO9) hxw (Nat.lt_of_lt_of_le hlt hM0)) hUM
      have HP20 : Hid (Pk (w20.setCell ⟨U, 0, none⟩ (.string t)) R { p with clean := btest x 2, wills := isW V (btest x 4), user := isW U (btest x 128), pass := isW Q (btest x 64), keep := k, props := tp, client := c }) := pk_out ((unhide HP9).bx hxw) hUR
      have HW20 : Hid (WillAt w4.heap.size w9.heap.size R (w20.setCell ⟨U, 0, none⟩ (.string t)) x V wl) := ((unhide HWL).bx hxw hlt9).out (fun h => (unhide HNE).1 h hb) (Nat.lt_of_lt_of_le hUM hM9)
      have HN20 : w9.heap.size ≤ (w20.setCell ⟨U, 0, none⟩ (.string t)).heap.size := Nat.le_trans hN9 (by simpa [World.setCell] using hxw.size)
      have hl20 : U < (w20.setCell ⟨U, 0, none⟩ (.string t)).heap.size := Nat.lt_of_lt_of_le hUl (by simpa [World.setCell] using hxw.size)
      have HST20 : Hid (Stp (user? x) st9 (some t) stu) := by
        show Stp _ _ _ _
        unfold user?
        rw [hb, if_pos rfl]
        exact hs20.bind (Stp.pure _ _)
      have H2Q : Hid (Rm w4.heap.size R (w20.setCell ⟨U, 0, none⟩ (.string t)) (btest x 64) Q strO) := ((unhide HQ).bx hxw).out (fun h e => (unhide HNE).2.2 hb h e.symm)
      have hcS : (w20.setCell ⟨U, 0, none⟩ (.string t)).cell? ⟨R, 12, none⟩ = some (.slice (some ⟨U, 0, none⟩) 1 1) := (World.cell?_setCell_other _ _ _ _ (fun e => by injection e with e1 _; exact hUR e1)).trans hcU
      clear hs20 h20 hx20 hxw
      refine hK.out _ _ (by exact hcU) (fun hHeld => ?_)
      clear hK K
      refine wpAnyH_take (i := 7) (oi := { dst := some 86, op := Op.indexAddr 26 (Operand.tmp 82) (Operand.tmp 83), type := 0, pos := "read.go:57", after := #[{ on := 3, ground := Ground.data }, { on := 4, ground := Ground.data }, { on := 0, ground := Ground.phase }, { on := 1, ground := Ground.phase }, { on := 2, ground := Ground.phase }, { on := 3, ground := Ground.phase }, { on := 4, ground := Ground.phase }, { on := 5, ground := Ground.phase }, { on := 6, ground := Ground.phase }], guard := none }) (v := ?v14) rfl (by kernel_rfl) (by kernel_rfl) (by kernel_rfl) (fun _ _ _ h => h) (Or.inl ⟨by rfl, ?hy14⟩) (by assumption) ?rest14
      case hy14 => (intro w hSw; (try dsimp only at hSw); go_simp; (try rw [if_pos (by omega)]); (try with_reducible rfl))
      simp only [Act.put, List.setIfInBounds_toArray, List.set_cons_zero, List.set_cons_succ]
      refine wpAnyH_ready (rs := [8]) (by kernel_rfl) (by simp) ?_
      refine AllReadyH.cons (o := { dst := none, op := Op.store 9 (Operand.tmp 86) (Operand.tmp 85), type := 0, pos := "read.go:57", after := #[{ on := 7, ground := Ground.data }, { on := 6, ground := Ground.data }, { on := 6, ground := Ground.chain }, { on := 0, ground := Ground.phase }, { on := 1, ground := Ground.phase }, { on := 2, ground := Ground.phase }, { on := 3, ground := Ground.phase }, { on := 4, ground := Ground.phase }, { on := 5, ground := Ground.phase }, { on := 6, ground := Ground.phase }], guard := none }) rfl (fun K hK => ?_) AllReadyH.nil
      go_simp
      refine hK.out _ _ (by exact hcS) (fun hHeld => ?_)
      clear hK K
      refine wpAnyH_done (by kernel_rfl) ?_ _
      refine NoPanic.normal ?_
      clear cU hcU v0 g0 b20 hcS hHeld
      go_wp2
      rw [rounds_succ]
      go_wp2
      go_meet
      case rel =>
        exact ⟨some t, stu, HS20, HP20, HX20, HW20, ⟨(fun h => by rw [hb] at h; cases h), fun _ => ⟨t, rfl, hU0, hUR, hl20, unhide BU⟩⟩, H2Q, HT20, HST20, HN20⟩
  case rest =>
  obtain ⟨us, stu, HSu, HPu, HXu, HWLu, HDU, HQu, HOu, HSTu, hNu⟩ := hcut
  obtain ⟨we, hwe⟩ : ∃ we, we = wc := ⟨wc, rfl⟩
  subst hwe
  clear HS9 HP9 HX9 HWL HU HQ HO9 hN9 cU
  have HS13 := HSu
  have HP13 := HPu
  have HX13 := HXu
  have HWL := HWLu
  have HQ := HQu
  have HO13 := HOu
  have hN13 := hNu
  clear HSu HPu HXu HWLu HQu HOu hNu
  have cU : we.cell? ⟨R, 13, none⟩ = some (.slice (isW Q (btest x 64)).ao (isW Q (btest x 64)).n (isW Q (btest x 64)).cap) := (unhide HP13).pass
  cases hb : btest x 64
  · rw [hb] at cU
    rw [show isW Q false = ⟨none, 0, 0⟩ from rfl] at cU
    go_wp2
    refine wp_loop_rounds 1 ?_
    rw [rounds_succ]
    go_wp2
    go_end0
    have hSP : Stp (pass? x) stu none stu := by
      unfold pass?
      rw [hb, if_neg (by decide)]
      exact Stp.pure _ _
    exact ⟨rfl, ⟨x, k, pr, c, wl, us, none⟩, V, U, Q, w9.heap.size, tp, _, unhide HP13, owns_mono (unhide HO13) hM0, Nat.le_trans hsz4 hs49, (unhide HWL).base hsz4, (unhide HDU).base hsz4, ⟨fun _ => rfl, fun h => by rw [hb] at h; cases h⟩, (unhide HST8) _ _ _ _ _ _ (unhide HST9) (unhide HSTu) hSP, unhide HS13, unhide HX13⟩
  · rw [hb] at cU
    rw [show isW Q true = ⟨some ⟨Q, 0, none⟩, 1, 1⟩ from rfl] at cU
    obtain ⟨hU0, hUR, hUb⟩ := unhide HQ
    obtain ⟨hUl, hUh0⟩ := hUb hb
    have hUh := hide hUh0
    clear hUb hUh0
    have hUM := (unhide HVM).2.2 hb
    go_wp2
    refine wp_loop_rounds 2 ?_
    rw [rounds_succ]
    go_wp2_with fail
    refine wp_region_noPanic ?_
    refine wp_region_held_drew (S := (fun w' => w'.cell? ⟨R, 13, none⟩ = some (.slice (some ⟨Q, 0, none⟩) 1 1))) (by kernel_rfl) (by simpa using cU) (fun hHeld => ?_)
    refine wpAnyH_take (i := 0) (oi := { dst := some 96, op := Op.move (Operand.tmp 2), type := 108, pos := "read.go:60", after := #[], guard := none }) (v := ?v22) rfl (by kernel_rfl) (by kernel_rfl) (by kernel_rfl) (fun _ _ _ h => h) (Or.inl ⟨by rfl, ?hy22⟩) (by assumption) ?rest22
    case hy22 => (intro w hSw; (try dsimp only at hSw); go_simp; (try rw [if_pos (by omega)]); (try with_reducible rfl))
    simp only [Act.put, List.setIfInBounds_toArray, List.set_cons_zero, List.set_cons_succ]
    refine wpAnyH_take (i := 1) (oi := { dst := some 97, op := Op.nilCheck (Operand.tmp 96), type := 0, pos := "read.go:60", after := #[{ on := 0, ground := Ground.data }], guard := none }) (v := ?v23) rfl (by kernel_rfl) (by kernel_rfl) (by kernel_rfl) (fun _ _ _ h => h) (Or.inl ⟨by rfl, ?hy23⟩) (by assumption) ?rest23
    case hy23 => (intro w hSw; (try dsimp only at hSw); go_simp; (try rw [if_pos (by omega)]); (try with_reducible rfl))
    simp only [Act.put, List.setIfInBounds_toArray, List.set_cons_zero, List.set_cons_succ]
    refine wpAnyH_take (i := 2) (oi := { dst := some 98, op := Op.fieldAddr 30 (Operand.tmp 97) 13, type := 0, pos := "read.go:60", after := #[{ on := 1, ground := Ground.data }], guard := none }) (v := ?v24) rfl (by kernel_rfl) (by kernel_rfl) (by kernel_rfl) (fun _ _ _ h => h) (Or.inl ⟨by rfl, ?hy24⟩) (by assumption) ?rest24
    case hy24 => (intro w hSw; (try dsimp only at hSw); go_simp; (try rw [if_pos (by omega)]); (try with_reducible rfl))
    simp only [Act.put, List.setIfInBounds_toArray, List.set_cons_zero, List.set_cons_succ]
    refine wpAnyH_take (i := 3) (oi := { dst := some 99, op := Op.load 26 (Operand.tmp 98), type := 26, pos := "read.go:60", after := #[{ on := 2, ground := Ground.data }], guard := none }) (v := ?v25) rfl (by kernel_rfl) (by kernel_rfl) (by kernel_rfl) (fun _ _ _ h => h) (Or.inl ⟨by rfl, ?hy25⟩) (by assumption) ?rest25
    case hy25 => (intro w hSw; (try dsimp only at hSw); go_simp; (try rw [if_pos (by omega)]); (try with_reducible rfl))
    simp only [Act.put, List.setIfInBounds_toArray, List.set_cons_zero, List.set_cons_succ]
    refine wpAnyH_take (i := 4) (oi := { dst := some 100, op := Op.move (Operand.tmp 6), type := 3, pos := "read.go:60", after := #[], guard := none }) (v := ?v26) rfl (by kernel_rfl) (by kernel_rfl) (by kernel_rfl) (fun _ _ _ h => h) (Or.inl ⟨by rfl, ?hy26⟩) (by assumption) ?rest26
    case hy26 => (intro w hSw; (try dsimp only at hSw); go_simp; (try rw [if_pos (by omega)]); (try with_reducible rfl))
    simp only [Act.put, List.setIfInBounds_toArray, List.set_cons_zero, List.set_cons_succ]
    refine wpAnyH_take (i := 5) (oi := { dst := some 101, op := Op.move (Operand.tmp 0), type := 143, pos := "read.go:60", after := #[], guard := none }) (v := ?v27) rfl (by kernel_rfl) (by kernel_rfl) (by kernel_rfl) (fun _ _ _ h => h) (Or.inl ⟨by rfl, ?hy27⟩) (by assumption) ?rest27
    case hy27 => (intro w hSw; (try dsimp only at hSw); go_simp; (try rw [if_pos (by omega)]); (try with_reducible rfl))
    simp only [Act.put, List.setIfInBounds_toArray, List.set_cons_zero, List.set_cons_succ]
    refine wpAnyH_ready (rs := [6]) (by kernel_rfl) (by simp) ?_
    refine AllReadyH.cons (o := { dst := some 102, op := Op.call { callee := Callee.value (Operand.func 164), args := #[Operand.tmp 101], argTypes := #[143] }, type := 9, pos := "read.go:60", after := #[{ on := 5, ground := Ground.data }], guard := none }) rfl (fun K hK => ?_) AllReadyH.nil
    go_simp
    refine (bin_any R stu w0 _ ((unhide HS13).below (bel_drew we))).mono ?_
    rintro e w20 ⟨t, stp, rfl, -, hs20, h20, hx20⟩
    have hxw : BX R isRE we w20 := (BX.of_below (bel_drew we) (unhide HS13).lt).trans hx20
    have hcU : w20.cell? ⟨R, 13, none⟩ = some (.slice (some ⟨Q, 0, none⟩) 1 1) := (hxw.cell 13 (by unfold isRE; omega)).trans cU
    have b20 : w20.heap[Q]? = some strO := (hxw.block Q hUl hUR).trans (unhide hUh)
    have v0 : w20.cell? ⟨Q, 0, none⟩ = some (.string ⟨#[]⟩) := by simp [World.cell?, b20]
    have g0 : w20.frozen? ⟨Q, 0, none⟩ = false := by simp [World.frozen?, b20]
    have BU : Hid ((w20.setCell ⟨Q, 0, none⟩ (.string t)).heap[Q]? = some (.cells #[.string t] 9)) := by
      have k := heap_set (j := 0) (u := .string t) b20
      show _ = _
      simpa using k
    have HS20 : Hid (RS w0 (w20.setCell ⟨Q, 0, none⟩ (.string t)) R stp) := h20.setOut Q 0 _ hUR (Nat.le_trans h0w hU0) (fun t y e => by simp [World.cell?, b20] at e)
    have HX20 : Hid (BX R isAny w (w20.setCell ⟨Q, 0, none⟩ (.string t))) := ((unhide HX13).trans hxw.any).setOut Q 0 _ (Nat.le_trans hsz4 hU0) hlt
    have HT20 : Hid ((w20.setCell ⟨Q, 0, none⟩ (.string t)).ownsRow M 120 4 tp.val pr.length (pcs pr)) := owns_out (owns_bx (unhide HO13) hxw (Nat.lt_of_lt_of_le hlt hM0)) hUM
    have HP20 : Hid (Pk (w20.setCell ⟨Q, 0, none⟩ (.string t)) R { p with clean := btest x 2, wills := isW V (btest x 4), user := isW U (btest x 128), pass := isW Q (btest x 64), keep := k, props := tp, client := c }) := pk_out ((unhide HP13).bx hxw) hUR
    have HW20 : Hid (WillAt w4.heap.size w9.heap.size R (w20.setCell ⟨Q, 0, none⟩ (.string t)) x V wl) := ((unhide HWL).bx hxw hlt9).out (fun h => (unhide HNE).2.1 h hb) (Nat.lt_of_lt_of_le hUM hM9)
    have HN20 : w9.heap.size ≤ (w20.setCell ⟨Q, 0, none⟩ (.string t)).heap.size := Nat.le_trans hN13 (by simpa [World.setCell] using hxw.size)
    have hl20 : Q < (w20.setCell ⟨Q, 0, none⟩ (.string t)).heap.size := Nat.lt_of_lt_of_le hUl (by simpa [World.setCell] using hxw.size)
    have HST20 : Hid (Stp (pass? x) stu (some t) stp) := by
      show Stp _ _ _ _
      unfold pass?
      rw [hb, if_pos rfl]
      exact hs20.bind (Stp.pure _ _)
    have H2U : Hid (StrAt w4.heap.size R (w20.setCell ⟨Q, 0, none⟩ (.string t)) (btest x 128) U us) := ((unhide HDU).bx hxw).out (fun h => (unhide HNE).2.2 h hb)
    have hcS : (w20.setCell ⟨Q, 0, none⟩ (.string t)).cell? ⟨R, 13, none⟩ = some (.slice (some ⟨Q, 0, none⟩) 1 1) := (World.cell?_setCell_other _ _ _ _ (fun e => by injection e with e1 _; exact hUR e1)).trans hcU
    clear hs20 h20 hx20 hxw
    refine hK.out _ _ (by exact hcU) (fun hHeld => ?_)
    clear hK K
    refine wpAnyH_take (i := 7) (oi := { dst := some 103, op := Op.indexAddr 26 (Operand.tmp 99) (Operand.tmp 100), type := 0, pos := "read.go:60", after := #[{ on := 3, ground := Ground.data }, { on := 4, ground := Ground.data }, { on := 0, ground := Ground.phase }, { on := 1, ground := Ground.phase }, { on := 2, ground := Ground.phase }, { on := 3, ground := Ground.phase }, { on := 4, ground := Ground.phase }, { on := 5, ground := Ground.phase }, { on := 6, ground := Ground.phase }], guard := none }) (v := ?v28) rfl (by kernel_rfl) (by kernel_rfl) (by kernel_rfl) (fun _ _ _ h => h) (Or.inl ⟨by rfl, ?hy28⟩) (by assumption) ?rest28
    case hy28 => (intro w hSw; (try dsimp only at hSw); go_simp; (try rw [if_pos (by omega)]); (try with_reducible rfl))
    simp only [Act.put, List.setIfInBounds_toArray, List.set_cons_zero, List.set_cons_succ]
    refine wpAnyH_ready (rs := [8]) (by kernel_rfl) (by simp) ?_
    refine AllReadyH.cons (o := { dst := none, op := Op.store 9 (Operand.tmp 103) (Operand.tmp 102), type := 0, pos := "read.go:60", after := #[{ on := 7, ground := Ground.data }, { on := 6, ground := Ground.data }, { on := 6, ground := Ground.chain }, { on := 0, ground := Ground.phase }, { on := 1, ground := Ground.phase }, { on := 2, ground := Ground.phase }, { on := 3, ground := Ground.phase }, { on := 4, ground := Ground.phase }, { on := 5, ground := Ground.phase }, { on := 6, ground := Ground.phase }], guard := none }) rfl (fun K hK => ?_) AllReadyH.nil
    go_simp
    refine hK.out _ _ (by exact hcS) (fun hHeld => ?_)
    clear hK K
    refine wpAnyH_done (by kernel_rfl) ?_ _
    refine NoPanic.normal ?_
    clear cU hcU v0 g0 b20 hcS hHeld
    go_wp2
    rw [rounds_succ]
    go_wp2
    go_end0
    exact ⟨rfl, ⟨x, k, pr, c, wl, us, (some t)⟩, V, U, Q, w9.heap.size, tp, _, unhide HP20, owns_mono (unhide HT20) hM0, Nat.le_trans hsz4 hs49, (unhide HW20).base hsz4, (unhide H2U).base hsz4, ⟨(fun h => by rw [hb] at h; cases h), fun _ => ⟨t, rfl, Nat.le_trans hsz4 hU0, hUR, hl20, unhide BU⟩⟩, (unhide HST8) _ _ _ _ _ _ (unhide HST9) (unhide HSTu) (unhide HST20), unhide HS20, unhide HX20⟩
end Go.Proofs.YtoocdfgjkeheaaaGreatDoor.K
/- Proved here: packet's reader: list, of subscriptions, of filters, of codes. Helper contracts. -/
namespace Go.Proofs.YtoocdfgjkeheaaaGreatDoor.K
open Go.RowKit
set_option maxRecDepth 100000

abbrev opKList0 : Oper := { dst := some 30, op := Op.load 28 (Operand.tmp 29), type := 28, pos := "read.go:103", after := #[{ on := 3, ground := Ground.data }], guard := none }
abbrev opKList1 : Oper := { dst := some 32, op := Op.call { callee := Callee.value (Operand.func 118), args := #[Operand.tmp 31], argTypes := #[143] }, type := 3, pos := "read.go:103", after := #[{ on := 5, ground := Ground.data }], guard := none }
abbrev opKList2 : Oper := { dst := some 33, op := Op.buildSlice 28 1 #[(0, Operand.tmp 32)], type := 28, pos := "read.go:103", after := #[{ on := 6, ground := Ground.data }], guard := none }
abbrev opKList3 : Oper := { dst := some 34, op := Op.call { callee := Callee.builtin Builtin.append, args := #[Operand.tmp 30, Operand.tmp 33], argTypes := #[28, 28] }, type := 28, pos := "read.go:103", after := #[{ on := 4, ground := Ground.data }, { on := 7, ground := Ground.data }, { on := 6, ground := Ground.chain }], guard := none }
abbrev opKList4 : Oper := { dst := some 35, op := Op.nilCheck (Operand.tmp 26), type := 0, pos := "read.go:103", after := #[{ on := 0, ground := Ground.data }, { on := 0, ground := Ground.phase }, { on := 1, ground := Ground.phase }, { on := 2, ground := Ground.phase }, { on := 3, ground := Ground.phase }, { on := 4, ground := Ground.phase }, { on := 5, ground := Ground.phase }, { on := 6, ground := Ground.phase }, { on := 7, ground := Ground.phase }, { on := 8, ground := Ground.phase }], guard := none }
abbrev opKList5 : Oper := { dst := some 36, op := Op.fieldAddr 30 (Operand.tmp 35) 18, type := 0, pos := "read.go:103", after := #[{ on := 9, ground := Ground.data }, { on := 0, ground := Ground.phase }, { on := 1, ground := Ground.phase }, { on := 2, ground := Ground.phase }, { on := 3, ground := Ground.phase }, { on := 4, ground := Ground.phase }, { on := 5, ground := Ground.phase }, { on := 6, ground := Ground.phase }, { on := 7, ground := Ground.phase }, { on := 8, ground := Ground.phase }], guard := none }
abbrev opKList6 : Oper := { dst := none, op := Op.store 28 (Operand.tmp 36) (Operand.tmp 34), type := 0, pos := "read.go:103", after := #[{ on := 10, ground := Ground.data }, { on := 8, ground := Ground.data }, { on := 8, ground := Ground.chain }, { on := 0, ground := Ground.phase }, { on := 1, ground := Ground.phase }, { on := 2, ground := Ground.phase }, { on := 3, ground := Ground.phase }, { on := 4, ground := Ground.phase }, { on := 5, ground := Ground.phase }, { on := 6, ground := Ground.phase }, { on := 7, ground := Ground.phase }, { on := 8, ground := Ground.phase }], guard := none }
abbrev opKList7 : Oper := { dst := some 56, op := Op.load 26 (Operand.tmp 55), type := 26, pos := "read.go:101", after := #[{ on := 3, ground := Ground.data }], guard := none }
abbrev opKList8 : Oper := { dst := some 58, op := Op.call { callee := Callee.value (Operand.func 161), args := #[Operand.tmp 57], argTypes := #[143] }, type := 9, pos := "read.go:101", after := #[{ on := 5, ground := Ground.data }], guard := none }
abbrev opKList9 : Oper := { dst := some 59, op := Op.buildSlice 26 1 #[(0, Operand.tmp 58)], type := 26, pos := "read.go:101", after := #[{ on := 6, ground := Ground.data }], guard := none }
abbrev opKList10 : Oper := { dst := some 60, op := Op.call { callee := Callee.builtin Builtin.append, args := #[Operand.tmp 56, Operand.tmp 59], argTypes := #[26, 26] }, type := 26, pos := "read.go:101", after := #[{ on := 4, ground := Ground.data }, { on := 7, ground := Ground.data }, { on := 6, ground := Ground.chain }], guard := none }
abbrev opKList11 : Oper := { dst := some 61, op := Op.nilCheck (Operand.tmp 52), type := 0, pos := "read.go:101", after := #[{ on := 0, ground := Ground.data }, { on := 0, ground := Ground.phase }, { on := 1, ground := Ground.phase }, { on := 2, ground := Ground.phase }, { on := 3, ground := Ground.phase }, { on := 4, ground := Ground.phase }, { on := 5, ground := Ground.phase }, { on := 6, ground := Ground.phase }, { on := 7, ground := Ground.phase }, { on := 8, ground := Ground.phase }], guard := none }
abbrev opKList12 : Oper := { dst := some 62, op := Op.fieldAddr 30 (Operand.tmp 61) 17, type := 0, pos := "read.go:101", after := #[{ on := 9, ground := Ground.data }, { on := 0, ground := Ground.phase }, { on := 1, ground := Ground.phase }, { on := 2, ground := Ground.phase }, { on := 3, ground := Ground.phase }, { on := 4, ground := Ground.phase }, { on := 5, ground := Ground.phase }, { on := 6, ground := Ground.phase }, { on := 7, ground := Ground.phase }, { on := 8, ground := Ground.phase }], guard := none }
abbrev opKList13 : Oper := { dst := none, op := Op.store 26 (Operand.tmp 62) (Operand.tmp 60), type := 0, pos := "read.go:101", after := #[{ on := 10, ground := Ground.data }, { on := 8, ground := Ground.data }, { on := 8, ground := Ground.chain }, { on := 0, ground := Ground.phase }, { on := 1, ground := Ground.phase }, { on := 2, ground := Ground.phase }, { on := 3, ground := Ground.phase }, { on := 4, ground := Ground.phase }, { on := 5, ground := Ground.phase }, { on := 6, ground := Ground.phase }, { on := 7, ground := Ground.phase }, { on := 8, ground := Ground.phase }], guard := none }
abbrev opKList14 : Oper := { dst := some 43, op := Op.load 27 (Operand.tmp 42), type := 27, pos := "read.go:99", after := #[{ on := 3, ground := Ground.data }], guard := none }
abbrev opKList15 : Oper := { dst := some 45, op := Op.call { callee := Callee.value (Operand.func 168), args := #[Operand.tmp 44], argTypes := #[143] }, type := 75, pos := "read.go:99", after := #[{ on := 5, ground := Ground.data }], guard := none }
abbrev opKList16 : Oper := { dst := some 46, op := Op.buildSlice 27 1 #[(0, Operand.tmp 45)], type := 27, pos := "read.go:99", after := #[{ on := 6, ground := Ground.data }], guard := none }
abbrev opKList17 : Oper := { dst := some 47, op := Op.call { callee := Callee.builtin Builtin.append, args := #[Operand.tmp 43, Operand.tmp 46], argTypes := #[27, 27] }, type := 27, pos := "read.go:99", after := #[{ on := 4, ground := Ground.data }, { on := 7, ground := Ground.data }, { on := 6, ground := Ground.chain }], guard := none }
abbrev opKList18 : Oper := { dst := some 48, op := Op.nilCheck (Operand.tmp 39), type := 0, pos := "read.go:99", after := #[{ on := 0, ground := Ground.data }, { on := 0, ground := Ground.phase }, { on := 1, ground := Ground.phase }, { on := 2, ground := Ground.phase }, { on := 3, ground := Ground.phase }, { on := 4, ground := Ground.phase }, { on := 5, ground := Ground.phase }, { on := 6, ground := Ground.phase }, { on := 7, ground := Ground.phase }, { on := 8, ground := Ground.phase }], guard := none }
abbrev opKList19 : Oper := { dst := some 49, op := Op.fieldAddr 30 (Operand.tmp 48) 16, type := 0, pos := "read.go:99", after := #[{ on := 9, ground := Ground.data }, { on := 0, ground := Ground.phase }, { on := 1, ground := Ground.phase }, { on := 2, ground := Ground.phase }, { on := 3, ground := Ground.phase }, { on := 4, ground := Ground.phase }, { on := 5, ground := Ground.phase }, { on := 6, ground := Ground.phase }, { on := 7, ground := Ground.phase }, { on := 8, ground := Ground.phase }], guard := none }
abbrev opKList20 : Oper := { dst := none, op := Op.store 27 (Operand.tmp 49) (Operand.tmp 47), type := 0, pos := "read.go:99", after := #[{ on := 10, ground := Ground.data }, { on := 8, ground := Ground.data }, { on := 8, ground := Ground.chain }, { on := 0, ground := Ground.phase }, { on := 1, ground := Ground.phase }, { on := 2, ground := Ground.phase }, { on := 3, ground := Ground.phase }, { on := 4, ground := Ground.phase }, { on := 5, ground := Ground.phase }, { on := 6, ground := Ground.phase }, { on := 7, ground := Ground.phase }, { on := 8, ground := Ground.phase }], guard := none }

theorem infoSub : (Tryz.prog.info? 75).map (fun i => (i.zero, i.size, i.bytes)) = some (some (.agg #[.string ⟨#[]⟩, .int .i64 0, .bool false, .bool false, .int .i64 0]), 5, 40) := by kernel_rfl
theorem infoInt : (Tryz.prog.info? 3).map (fun i => (i.zero, i.size, i.bytes)) = some (some (.int .i64 0), 1, 8) := by kernel_rfl
theorem infoStr : (Tryz.prog.info? 9).map (fun i => (i.zero, i.size, i.bytes)) = some (some (.string ⟨#[]⟩), 1, 16) := by kernel_rfl
def Sb.cells (s : Sb) : List Value := [.string s.filter, .int .i64 s.qos, .bool s.nolocal, .bool s.aspub, .int .i64 s.handling]
def scs (d : List Sb) : List Value := d.flatMap Sb.cells
theorem scs_app (d : List Sb) (s : Sb) : scs (d ++ [s]) = scs d ++ s.cells := by unfold scs; simp
theorem five_cell (w : World) (a b c d e : Value) (t : TypeId) : ∀ j u, [a, b, c, d, e][j]? = some u → (w.alloc (.cells #[a, b, c, d, e] t)).cell? ((⟨w.heap.size, 0, none⟩ : Addr).add j) = some u := by
  intro j u hj
  match j, hj with
  | 0, hj => simp at hj; subst hj; simp [Addr.add]
  | 1, hj => simp at hj; subst hj; simp [Addr.add]
  | 2, hj => simp at hj; subst hj; simp [Addr.add]
  | 3, hj => simp at hj; subst hj; simp [Addr.add]
  | 4, hj => simp at hj; subst hj; simp [Addr.add]
theorem one_str (s : ByteArray) : ∀ u ∈ [Value.string s], u.oneCell' = true := by
  intro u hu; simp at hu; subst hu; rfl
theorem five_one (s : Sb) : ∀ u ∈ s.cells, u.oneCell' = true := by
  intro u hu
  simp only [Sb.cells, List.mem_cons, List.not_mem_nil, or_false] at hu
  rcases hu with rfl | rfl | rfl | rfl | rfl <;> rfl
def Listcodes (w0 : World) (R : Nat) (p : Pkv) (st : Option (List Int)) (w : World) (e : Ending) (w' : World) : Prop :=
  e = .returned (.tuple #[]) ∧ ∃ (t : Sl) (d : List Int) (st' : Option (List Int)), Pk w' R { p with codes := t } ∧ Hid (w'.ownsRow w.heap.size 3 1 t.val d.length (d.map (Value.int .i64))) ∧ Stp (list? one?) st d st' ∧ RS w0 w' R st' ∧ BX R isAny w w'
set_option maxHeartbeats 4000000 in
theorem list_codes (R : Nat) (p : Pkv) (st : Option (List Int)) (w0 w : World) (h : RS w0 w R st) (hp : Pk w R p) (hF : p.codes = ⟨none, 0, 0⟩) (hl : ∀ l, st = some l → l.length ≤ 65536) (h8 : p.kind ≠ 8) (h10 : p.kind ≠ 10) : Calls Tryz.prog 123 #[.pointer (some ⟨R, 0, none⟩)] w (Listcodes w0 R p st w) := by
  obtain ⟨i0, hi, hz0, hz1, hz2⟩ := info_parts infoInt
  have hlt := h.lt
  have HW0 := h.keep
  have HP := hide hp
  have HS := hide h
  have HL := hide hl
  have HF := hide hF
  clear hp h hl hF
  go_enter Tryz.func123, Tryz.ntmps123
  go_wp2
  go_loopw [3] (fun c0 wr => ∃ (d : List Int) (st1 : Option (List Int)) (t : Sl) (k : Nat), c0 = .int .i64 k ∧ k ≤ 65536 ∧ Hid (d.length = k) ∧ Hid (∀ l, st1 = some l → k + l.length ≤ 65536) ∧ Hid (Pk wr R { p with codes := t }) ∧ Hid (wr.ownsRow w.heap.size 3 1 t.val k (d.map (Value.int .i64))) ∧ Hid (Acc one? st d st1) ∧ Hid (RS w0 wr R st1) ∧ Hid (BX R isAny w wr)) (fun _ wr => mlen R wr)
  case atStart =>
    refine ⟨[], st, ⟨none, 0, 0⟩, 0, rfl, Nat.zero_le _, rfl, fun l hl => by have := (unhide HL) l hl; omega, ?_, World.ownsRow_nil _ _ _ _, Acc.start _ _, unhide HS, BX.refl _ _ _⟩
    show Pk _ _ _
    have e : { p with codes := ⟨none, 0, 0⟩ } = p := by rw [← unhide HF]
    rw [e]
    exact unhide HP
  case round =>
    obtain ⟨d, st1, ⟨ta, tn, tc⟩, k, rfl, hk, HD, HB, HPk, HOwn, HAcc, HRS, HBX⟩ := hrel
    obtain ⟨ao, m, cap, c19, ⟨g1, g2⟩, gl⟩ := (unhide HRS).rest
    unfold maxLen at g2
    have c0 := (unhide HPk).kind
    simp only at c0
    have cF : wr.cell? ⟨R, 18, none⟩ = some (.slice ta tn tc) := (unhide HPk).codes
    skip
    rcases (unhide HRS).err with ⟨l, rfl, c20⟩ | ⟨rfl, ty, x, c20⟩
    · have hm := gl l rfl
      clear gl
      by_cases hm0 : m = 0
      · subst hm0
        obtain rfl : l = [] := List.length_eq_zero_iff.1 hm
        go_wp2_with fail
        refine (mayCount_any k _).mono ?_
        rintro e wa ⟨rfl, hwa⟩
        obtain rfl := hwa.symm
        clear hwa
        go_wp2_with fail
        refine (must_any R _ (some []) w0 wr (unhide HRS)).mono ?_
        rintro e wb ⟨rfl, h2, hx2⟩
        have H2 := hide h2
        have HX2 := hide hx2
        clear h2 hx2
        go_wp2
        go_end0
        refine ⟨rfl, ⟨ta, tn, tc⟩, d, _, (unhide HPk).bx (unhide HX2), ?_, ?_, unhide H2, (unhide HBX).trans (unhide HX2).any⟩
        · show World.ownsRow _ _ _ _ _ _ _
          rw [unhide HD]
          exact owns_bx (unhide HOwn) (unhide HX2) hlt
        · refine ((unhide HAcc).done (.inr rfl)).bind ((?_ : Stp (mustR (mc d.length)) (some []) () (if mc k then (some []) else none)).bind (Stp.pure _ _))
          rw [unhide HD]
          exact Stp.must _ _
      · have hl0 : l ≠ [] := fun e => hm0 (by rw [← hm, e]; rfl)
        have hbd := bel_drew wr
        obtain ⟨X, hXd⟩ : ∃ X : Nat → Prop, X = fun g => g = R ∨ some g = (Value.slice ta tn tc).ownBlock := ⟨_, rfl⟩
        have HRSd : Hid (RSX w0 wr.drew R X (some l)) := by
          subst hXd
          exact ((unhide HRS).below hbd).good _ ⟨.inl rfl, fun g hg => by
            rcases hg with rfl | hg
            · exact Nat.lt_of_lt_of_le hlt (unhide HBX).size
            · exact ((unhide HOwn).lt g hg.symm).2⟩
        have HPd := hide ((unhide HPk).below hbd)
        have HBXd : Hid (BX R isAny w wr.drew) := (unhide HBX).trans (BX.of_below hbd (unhide HRS).lt)
        have HOd : Hid (wr.drew.ownsRow w.heap.size 3 1 (.slice ta tn tc) k (d.map (Value.int .i64))) := owns_below (unhide HOwn) hbd
        clear hbd
        go_wp2_with fail
        refine wp_region_noPanic ?_
        refine wp_region_held_drew (S := fun _ => True) (by kernel_rfl) trivial (fun hHeld => ?_)
        refine wpAnyH_take (i := 0) (oi := { dst := some 26, op := Op.move (Operand.tmp 2), type := 108, pos := "read.go:103", after := #[], guard := none }) (v := ?v7) rfl (by kernel_rfl) (by kernel_rfl) (by kernel_rfl) (fun _ _ _ h => h) (Or.inl ⟨by rfl, ?hy7⟩) (by assumption) ?rest7
        case hy7 => (intro w hSw; (try dsimp only at hSw); go_simp; (try rw [if_pos (by omega)]); (try with_reducible rfl))
        simp only [Act.put, List.setIfInBounds_toArray, List.set_cons_zero, List.set_cons_succ]
        refine wpAnyH_take (i := 1) (oi := { dst := some 27, op := Op.move (Operand.tmp 2), type := 108, pos := "read.go:103", after := #[], guard := none }) (v := ?v8) rfl (by kernel_rfl) (by kernel_rfl) (by kernel_rfl) (fun _ _ _ h => h) (Or.inl ⟨by rfl, ?hy8⟩) (by assumption) ?rest8
        case hy8 => (intro w hSw; (try dsimp only at hSw); go_simp; (try rw [if_pos (by omega)]); (try with_reducible rfl))
        simp only [Act.put, List.setIfInBounds_toArray, List.set_cons_zero, List.set_cons_succ]
        refine wpAnyH_take (i := 2) (oi := { dst := some 28, op := Op.nilCheck (Operand.tmp 27), type := 0, pos := "read.go:103", after := #[{ on := 1, ground := Ground.data }], guard := none }) (v := ?v9) rfl (by kernel_rfl) (by kernel_rfl) (by kernel_rfl) (fun _ _ _ h => h) (Or.inl ⟨by rfl, ?hy9⟩) (by assumption) ?rest9
        case hy9 => (intro w hSw; (try dsimp only at hSw); go_simp; (try rw [if_pos (by omega)]); (try with_reducible rfl))
        simp only [Act.put, List.setIfInBounds_toArray, List.set_cons_zero, List.set_cons_succ]
        refine wpAnyH_take (i := 3) (oi := { dst := some 29, op := Op.fieldAddr 30 (Operand.tmp 28) 18, type := 0, pos := "read.go:103", after := #[{ on := 2, ground := Ground.data }], guard := none }) (v := ?v10) rfl (by kernel_rfl) (by kernel_rfl) (by kernel_rfl) (fun _ _ _ h => h) (Or.inl ⟨by rfl, ?hy10⟩) (by assumption) ?rest10
        case hy10 => (intro w hSw; (try dsimp only at hSw); go_simp; (try rw [if_pos (by omega)]); (try with_reducible rfl))
        simp only [Act.put, List.setIfInBounds_toArray, List.set_cons_zero, List.set_cons_succ]
        refine wpAnyH_take (i := 5) (oi := { dst := some 31, op := Op.move (Operand.tmp 0), type := 143, pos := "read.go:103", after := #[], guard := none }) (v := ?v11) rfl (by kernel_rfl) (by kernel_rfl) (by kernel_rfl) (fun _ _ _ h => h) (Or.inl ⟨by rfl, ?hy11⟩) (by assumption) ?rest11
        case hy11 => (intro w hSw; (try dsimp only at hSw); go_simp; (try rw [if_pos (by omega)]); (try with_reducible rfl))
        simp only [Act.put, List.setIfInBounds_toArray, List.set_cons_zero, List.set_cons_succ]
        refine wpAnyH_ready (rs := [4, 6]) (by kernel_rfl) (by simp) ?_
        refine AllReadyH.cons (o := opKList0) rfl (fun K hK => ?_) (AllReadyH.cons (o := opKList1) rfl (fun K hK => ?_) AllReadyH.nil)
        · go_simp
          refine hK.out _ _ trivial (fun hHeld => ?_)
          clear hK K
          refine wpAnyH_ready (rs := [6]) (by kernel_rfl) (by simp) ?_
          refine AllReadyH.cons (o := opKList1) rfl (fun K hK => ?_) AllReadyH.nil
          go_simp
          refine (one_anyX R X (some l) w0 _ (unhide HRSd)).mono ?_
          rintro e w2 ⟨x, st2, rfl, -, hs2, h2, hx2⟩
          have cF2 : w2.cell? ⟨R, 18, none⟩ = some (.slice ta tn tc) := (hx2.cell 18 (by unfold isRE; omega)).trans cF
          have hs2l : w.heap.size ≤ w2.heap.size := Nat.le_trans (unhide HBX).size hx2.size
          have HP2 := hide ((unhide HPd).bx hx2)
          have HRS2 := hide h2
          have HST2 := hide hs2
          have HBX2 : Hid (BX R isAny w w2) := (unhide HBXd).trans hx2.any
          have HO2 : Hid (w2.ownsRow w.heap.size 3 1 (.slice ta tn tc) k (d.map (Value.int .i64))) := owns_bx (unhide HOd) hx2 hlt
          have hR2 : R < w2.heap.size := Nat.lt_of_lt_of_le hlt hs2l
          have cF3 : (w2.alloc (.cells #[.int .i64 x] 3)).cell? ⟨R, 18, none⟩ = some (.slice ta tn tc) := (World.cell?_alloc_lt _ _ ⟨R, 18, none⟩ hR2).trans cF2
          clear hx2 h2 hs2
          refine hK.out _ _ trivial (fun hHeld => ?_)
          clear hK K
          refine wpAnyH_ready (rs := [7]) (by kernel_rfl) (by simp) ?_
          refine AllReadyH.cons (o := opKList2) rfl (fun K hK => ?_) AllReadyH.nil
          go_simp
          refine hK.out _ _ trivial (fun hHeld => ?_)
          clear hK K
          refine wpAnyH_ready (rs := [8]) (by kernel_rfl) (by simp) ?_
          refine AllReadyH.cons (o := opKList3) rfl (fun K hK => ?_) AllReadyH.nil
          refine step_append_run (Z := fun v' w' => w'.ownsRow w.heap.size 3 1 v' (k + 1) ((d.map (Value.int .i64)) ++ [.int .i64 x]) ∧ (w2.alloc (.cells #[.int .i64 x] 3)).grownBy w' (Value.slice ta tn tc).ownBlock) rfl _ _ 28 rfl (.slice ta tn tc) (.slice (some ⟨w2.heap.size, 0, none⟩) 1 1) rfl rfl ?hr ?_
          case hr =>
            obtain ⟨v4, w4, h1, h2, h3, _⟩ := run_append_own (P := Tryz.prog) (w := (w2.alloc (.cells #[.int .i64 x] 3))) w.heap.size 28 28 3 i0 _ 1 8 Tryz.underlying28 hi hz0 hz1 hz2 rfl (by decide) (.slice ta tn tc) k _ ((unhide HO2).alloc _) ⟨w2.heap.size, 0, none⟩ 1 1 [.int .i64 x] rfl (one_cell _ _ _) (one_one _ _) (by unfold maxLen; omega) (by omega) (by simp; omega)
            exact ⟨v4, w4, h1, h2, h3⟩
          rintro v4 w4 ⟨hO4, hg4⟩
          have hrow : ∀ g, (Value.slice ta tn tc).ownBlock = some g → w.heap.size ≤ g ∧ g < wr.heap.size := fun g hg => (unhide HOwn).lt g hg
          have hrR : (Value.slice ta tn tc).ownBlock ≠ some R := fun e => by have := (hrow R e).1; omega
          have HP4 : Hid (Pk w4 R { p with codes := ⟨ta, tn, tc⟩ }) := ((unhide HP2).below ((Below.refl _ _).alloc (Nat.le_refl _) _)).grown hg4 hrR
          have h0w : w0.heap.size ≤ w.heap.size := HW0.size
          have HRS4 : Hid (RSX w0 w4 R X st2) := ((unhide HRS2).below ((Below.refl _ _).alloc (Nat.le_refl _) _)).grown hg4 (fun g hg => by rw [hXd]; exact .inr hg.symm) hrR (fun g hg => Nat.le_trans h0w (hrow g hg).1)
          have HBX4 : Hid (BX R isAny w w4) := ((unhide HBX2).trans (BX.of_below ((Below.refl _ _).alloc (Nat.le_refl _) _) hR2)).grown hg4 (fun g hg => (hrow g hg).1) hlt
          obtain ⟨⟨sa, sn, sc⟩, hv4, _⟩ := owns_sl hO4
          have hv4 : v4 = .slice sa sn sc := hv4
          subst hv4
          have HO4 := hide hO4
          have cF4 : w4.cell? ⟨R, 18, none⟩ = some (.slice ta tn tc) := (unhide HP4).codes
          have fF4 : w4.frozen? ⟨R, 18, none⟩ = false := (unhide HP4).codes_f
          clear hO4 hg4 hrow cF2 cF3 HP2 HRS2 HBX2
          refine hK.out _ _ trivial (fun hHeld => ?_)
          clear hK K
          simp only [Act.put, List.setIfInBounds_toArray, List.set_cons_zero, List.set_cons_succ]
          refine wpAnyH_take (i := 9) (oi := opKList4) (v := ?v1) rfl (by kernel_rfl) (by kernel_rfl) (by kernel_rfl) (fun _ _ _ h => h) (Or.inl ⟨by rfl, ?hy1⟩) (by assumption) ?rest1
          case hy1 => (intro w hSw; (try dsimp only at hSw); go_simp; (try rw [if_pos (by omega)]); (try with_reducible rfl))
          simp only [Act.put, List.setIfInBounds_toArray, List.set_cons_zero, List.set_cons_succ]
          refine wpAnyH_take (i := 10) (oi := opKList5) (v := ?v2) rfl (by kernel_rfl) (by kernel_rfl) (by kernel_rfl) (fun _ _ _ h => h) (Or.inl ⟨by rfl, ?hy2⟩) (by assumption) ?rest2
          case hy2 => (intro w hSw; (try dsimp only at hSw); go_simp; (try rw [if_pos (by omega)]); (try with_reducible rfl))
          simp only [Act.put, List.setIfInBounds_toArray, List.set_cons_zero, List.set_cons_succ]
          refine wpAnyH_ready (rs := [11]) (by kernel_rfl) (by simp) ?_
          refine AllReadyH.cons (o := opKList6) rfl (fun K hK => ?_) AllReadyH.nil
          go_simp
          refine hK.out _ _ trivial (fun hHeld => ?_)
          clear hK K
          refine wpAnyH_done (by kernel_rfl) ?_ _
          refine NoPanic.normal ?_
          have HRS5 : Hid (RS w0 (w4.setCell ⟨R, 18, none⟩ (.slice sa sn sc)) R st2) := ((unhide HRS4).less (fun g => g = R) rfl (fun g hg => by rw [hXd]; exact .inl hg)).set 18 _ (by decide)
          have HP5 : Hid (Pk (w4.setCell ⟨R, 18, none⟩ (.slice sa sn sc)) R { p with codes := ⟨sa, sn, sc⟩ }) := (unhide HP4).set_codes ⟨sa, sn, sc⟩
          have HBX5 : Hid (BX R isAny w (w4.setCell ⟨R, 18, none⟩ (.slice sa sn sc))) := (unhide HBX4).set 18 _ trivial
          have HO5 : Hid ((w4.setCell ⟨R, 18, none⟩ (.slice sa sn sc)).ownsRow w.heap.size 3 1 (.slice sa sn sc) (k + 1) ((d ++ [x]).map (Value.int .i64))) := by
            show World.ownsRow _ _ _ _ _ _ _
            rw [show ((d ++ [x]).map (Value.int .i64)) = (d.map (Value.int .i64)) ++ [.int .i64 x] from by simp]
            exact owns_bx (unhide HO4) ((BX.refl R isAny w4).set 18 _ trivial) hlt
          have HA5 : Hid (Acc one? st (d ++ [x]) st2) := (unhide HAcc).step one?_shr (unhide HST2) hl0
          have HB5 : Hid (∀ l', st2 = some l' → (k + 1) + l'.length ≤ 65536) := by
            intro l' hl'
            subst hl'
            have h2 := stp_len one?_shr (unhide HST2)
            have h3 := (unhide HB) l rfl
            omega
          have hM : mlen R (w4.setCell ⟨R, 18, none⟩ (.slice sa sn sc)) < mlen R wr := by
            rw [mlen_some (unhide HRS)]
            cases st2 with
            | none => rw [mlen_none (unhide HRS5)]; omega
            | some l' =>
              rw [mlen_some (unhide HRS5)]
              have := stp_len one?_shr (unhide HST2)
              omega
          have hk1 : k + 1 ≤ 65536 := by
            have h3 := (unhide HB) l rfl
            have := List.length_pos_iff.2 hl0
            omega
          have HD5 : Hid ((d ++ [x]).length = k + 1) := by show _ = _; rw [List.length_append, unhide HD]; rfl
          clear HRS4 HP4 HBX4 HO4 cF4 fF4
          go_wp2
          go_roundw
          case rel => exact ⟨d ++ [x], st2, ⟨sa, sn, sc⟩, k + 1, by go_num, hk1, HD5, HB5, HP5, HO5, HA5, HRS5, HBX5⟩
          case measure => exact hM
        · go_simp
          refine (one_anyX R X (some l) w0 _ (unhide HRSd)).mono ?_
          rintro e w2 ⟨x, st2, rfl, -, hs2, h2, hx2⟩
          have cF2 : w2.cell? ⟨R, 18, none⟩ = some (.slice ta tn tc) := (hx2.cell 18 (by unfold isRE; omega)).trans cF
          have hs2l : w.heap.size ≤ w2.heap.size := Nat.le_trans (unhide HBX).size hx2.size
          have HP2 := hide ((unhide HPd).bx hx2)
          have HRS2 := hide h2
          have HST2 := hide hs2
          have HBX2 : Hid (BX R isAny w w2) := (unhide HBXd).trans hx2.any
          have HO2 : Hid (w2.ownsRow w.heap.size 3 1 (.slice ta tn tc) k (d.map (Value.int .i64))) := owns_bx (unhide HOd) hx2 hlt
          have hR2 : R < w2.heap.size := Nat.lt_of_lt_of_le hlt hs2l
          have cF3 : (w2.alloc (.cells #[.int .i64 x] 3)).cell? ⟨R, 18, none⟩ = some (.slice ta tn tc) := (World.cell?_alloc_lt _ _ ⟨R, 18, none⟩ hR2).trans cF2
          clear hx2 h2 hs2
          refine hK.out _ _ trivial (fun hHeld => ?_)
          clear hK K
          refine wpAnyH_ready (rs := [4, 7]) (by kernel_rfl) (by simp) ?_
          refine AllReadyH.cons (o := opKList0) rfl (fun K hK => ?_) (AllReadyH.cons (o := opKList2) rfl (fun K hK => ?_) AllReadyH.nil)
          · go_simp
            refine hK.out _ _ trivial (fun hHeld => ?_)
            clear hK K
            refine wpAnyH_ready (rs := [7]) (by kernel_rfl) (by simp) ?_
            refine AllReadyH.cons (o := opKList2) rfl (fun K hK => ?_) AllReadyH.nil
            go_simp
            refine hK.out _ _ trivial (fun hHeld => ?_)
            clear hK K
            refine wpAnyH_ready (rs := [8]) (by kernel_rfl) (by simp) ?_
            refine AllReadyH.cons (o := opKList3) rfl (fun K hK => ?_) AllReadyH.nil
            refine step_append_run (Z := fun v' w' => w'.ownsRow w.heap.size 3 1 v' (k + 1) ((d.map (Value.int .i64)) ++ [.int .i64 x]) ∧ (w2.alloc (.cells #[.int .i64 x] 3)).grownBy w' (Value.slice ta tn tc).ownBlock) rfl _ _ 28 rfl (.slice ta tn tc) (.slice (some ⟨w2.heap.size, 0, none⟩) 1 1) rfl rfl ?hr ?_
            case hr =>
              obtain ⟨v4, w4, h1, h2, h3, _⟩ := run_append_own (P := Tryz.prog) (w := (w2.alloc (.cells #[.int .i64 x] 3))) w.heap.size 28 28 3 i0 _ 1 8 Tryz.underlying28 hi hz0 hz1 hz2 rfl (by decide) (.slice ta tn tc) k _ ((unhide HO2).alloc _) ⟨w2.heap.size, 0, none⟩ 1 1 [.int .i64 x] rfl (one_cell _ _ _) (one_one _ _) (by unfold maxLen; omega) (by omega) (by simp; omega)
              exact ⟨v4, w4, h1, h2, h3⟩
            rintro v4 w4 ⟨hO4, hg4⟩
            have hrow : ∀ g, (Value.slice ta tn tc).ownBlock = some g → w.heap.size ≤ g ∧ g < wr.heap.size := fun g hg => (unhide HOwn).lt g hg
            have hrR : (Value.slice ta tn tc).ownBlock ≠ some R := fun e => by have := (hrow R e).1; omega
            have HP4 : Hid (Pk w4 R { p with codes := ⟨ta, tn, tc⟩ }) := ((unhide HP2).below ((Below.refl _ _).alloc (Nat.le_refl _) _)).grown hg4 hrR
            have h0w : w0.heap.size ≤ w.heap.size := HW0.size
            have HRS4 : Hid (RSX w0 w4 R X st2) := ((unhide HRS2).below ((Below.refl _ _).alloc (Nat.le_refl _) _)).grown hg4 (fun g hg => by rw [hXd]; exact .inr hg.symm) hrR (fun g hg => Nat.le_trans h0w (hrow g hg).1)
            have HBX4 : Hid (BX R isAny w w4) := ((unhide HBX2).trans (BX.of_below ((Below.refl _ _).alloc (Nat.le_refl _) _) hR2)).grown hg4 (fun g hg => (hrow g hg).1) hlt
            obtain ⟨⟨sa, sn, sc⟩, hv4, _⟩ := owns_sl hO4
            have hv4 : v4 = .slice sa sn sc := hv4
            subst hv4
            have HO4 := hide hO4
            have cF4 : w4.cell? ⟨R, 18, none⟩ = some (.slice ta tn tc) := (unhide HP4).codes
            have fF4 : w4.frozen? ⟨R, 18, none⟩ = false := (unhide HP4).codes_f
            clear hO4 hg4 hrow cF2 cF3 HP2 HRS2 HBX2
            refine hK.out _ _ trivial (fun hHeld => ?_)
            clear hK K
            simp only [Act.put, List.setIfInBounds_toArray, List.set_cons_zero, List.set_cons_succ]
            refine wpAnyH_take (i := 9) (oi := opKList4) (v := ?v3) rfl (by kernel_rfl) (by kernel_rfl) (by kernel_rfl) (fun _ _ _ h => h) (Or.inl ⟨by rfl, ?hy3⟩) (by assumption) ?rest3
            case hy3 => (intro w hSw; (try dsimp only at hSw); go_simp; (try rw [if_pos (by omega)]); (try with_reducible rfl))
            simp only [Act.put, List.setIfInBounds_toArray, List.set_cons_zero, List.set_cons_succ]
            refine wpAnyH_take (i := 10) (oi := opKList5) (v := ?v4) rfl (by kernel_rfl) (by kernel_rfl) (by kernel_rfl) (fun _ _ _ h => h) (Or.inl ⟨by rfl, ?hy4⟩) (by assumption) ?rest4
            case hy4 => (intro w hSw; (try dsimp only at hSw); go_simp; (try rw [if_pos (by omega)]); (try with_reducible rfl))
            simp only [Act.put, List.setIfInBounds_toArray, List.set_cons_zero, List.set_cons_succ]
            refine wpAnyH_ready (rs := [11]) (by kernel_rfl) (by simp) ?_
            refine AllReadyH.cons (o := opKList6) rfl (fun K hK => ?_) AllReadyH.nil
            go_simp
            refine hK.out _ _ trivial (fun hHeld => ?_)
            clear hK K
            refine wpAnyH_done (by kernel_rfl) ?_ _
            refine NoPanic.normal ?_
            have HRS5 : Hid (RS w0 (w4.setCell ⟨R, 18, none⟩ (.slice sa sn sc)) R st2) := ((unhide HRS4).less (fun g => g = R) rfl (fun g hg => by rw [hXd]; exact .inl hg)).set 18 _ (by decide)
            have HP5 : Hid (Pk (w4.setCell ⟨R, 18, none⟩ (.slice sa sn sc)) R { p with codes := ⟨sa, sn, sc⟩ }) := (unhide HP4).set_codes ⟨sa, sn, sc⟩
            have HBX5 : Hid (BX R isAny w (w4.setCell ⟨R, 18, none⟩ (.slice sa sn sc))) := (unhide HBX4).set 18 _ trivial
            have HO5 : Hid ((w4.setCell ⟨R, 18, none⟩ (.slice sa sn sc)).ownsRow w.heap.size 3 1 (.slice sa sn sc) (k + 1) ((d ++ [x]).map (Value.int .i64))) := by
              show World.ownsRow _ _ _ _ _ _ _
              rw [show ((d ++ [x]).map (Value.int .i64)) = (d.map (Value.int .i64)) ++ [.int .i64 x] from by simp]
              exact owns_bx (unhide HO4) ((BX.refl R isAny w4).set 18 _ trivial) hlt
            have HA5 : Hid (Acc one? st (d ++ [x]) st2) := (unhide HAcc).step one?_shr (unhide HST2) hl0
            have HB5 : Hid (∀ l', st2 = some l' → (k + 1) + l'.length ≤ 65536) := by
              intro l' hl'
              subst hl'
              have h2 := stp_len one?_shr (unhide HST2)
              have h3 := (unhide HB) l rfl
              omega
            have hM : mlen R (w4.setCell ⟨R, 18, none⟩ (.slice sa sn sc)) < mlen R wr := by
              rw [mlen_some (unhide HRS)]
              cases st2 with
              | none => rw [mlen_none (unhide HRS5)]; omega
              | some l' =>
                rw [mlen_some (unhide HRS5)]
                have := stp_len one?_shr (unhide HST2)
                omega
            have hk1 : k + 1 ≤ 65536 := by
              have h3 := (unhide HB) l rfl
              have := List.length_pos_iff.2 hl0
              omega
            have HD5 : Hid ((d ++ [x]).length = k + 1) := by show _ = _; rw [List.length_append, unhide HD]; rfl
            clear HRS4 HP4 HBX4 HO4 cF4 fF4
            go_wp2
            go_roundw
            case rel => exact ⟨d ++ [x], st2, ⟨sa, sn, sc⟩, k + 1, by go_num, hk1, HD5, HB5, HP5, HO5, HA5, HRS5, HBX5⟩
            case measure => exact hM
          · go_simp
            refine hK.out _ _ trivial (fun hHeld => ?_)
            clear hK K
            refine wpAnyH_ready (rs := [4]) (by kernel_rfl) (by simp) ?_
            refine AllReadyH.cons (o := opKList0) rfl (fun K hK => ?_) AllReadyH.nil
            go_simp
            refine hK.out _ _ trivial (fun hHeld => ?_)
            clear hK K
            refine wpAnyH_ready (rs := [8]) (by kernel_rfl) (by simp) ?_
            refine AllReadyH.cons (o := opKList3) rfl (fun K hK => ?_) AllReadyH.nil
            refine step_append_run (Z := fun v' w' => w'.ownsRow w.heap.size 3 1 v' (k + 1) ((d.map (Value.int .i64)) ++ [.int .i64 x]) ∧ (w2.alloc (.cells #[.int .i64 x] 3)).grownBy w' (Value.slice ta tn tc).ownBlock) rfl _ _ 28 rfl (.slice ta tn tc) (.slice (some ⟨w2.heap.size, 0, none⟩) 1 1) rfl rfl ?hr ?_
            case hr =>
              obtain ⟨v4, w4, h1, h2, h3, _⟩ := run_append_own (P := Tryz.prog) (w := (w2.alloc (.cells #[.int .i64 x] 3))) w.heap.size 28 28 3 i0 _ 1 8 Tryz.underlying28 hi hz0 hz1 hz2 rfl (by decide) (.slice ta tn tc) k _ ((unhide HO2).alloc _) ⟨w2.heap.size, 0, none⟩ 1 1 [.int .i64 x] rfl (one_cell _ _ _) (one_one _ _) (by unfold maxLen; omega) (by omega) (by simp; omega)
              exact ⟨v4, w4, h1, h2, h3⟩
            rintro v4 w4 ⟨hO4, hg4⟩
            have hrow : ∀ g, (Value.slice ta tn tc).ownBlock = some g → w.heap.size ≤ g ∧ g < wr.heap.size := fun g hg => (unhide HOwn).lt g hg
            have hrR : (Value.slice ta tn tc).ownBlock ≠ some R := fun e => by have := (hrow R e).1; omega
            have HP4 : Hid (Pk w4 R { p with codes := ⟨ta, tn, tc⟩ }) := ((unhide HP2).below ((Below.refl _ _).alloc (Nat.le_refl _) _)).grown hg4 hrR
            have h0w : w0.heap.size ≤ w.heap.size := HW0.size
            have HRS4 : Hid (RSX w0 w4 R X st2) := ((unhide HRS2).below ((Below.refl _ _).alloc (Nat.le_refl _) _)).grown hg4 (fun g hg => by rw [hXd]; exact .inr hg.symm) hrR (fun g hg => Nat.le_trans h0w (hrow g hg).1)
            have HBX4 : Hid (BX R isAny w w4) := ((unhide HBX2).trans (BX.of_below ((Below.refl _ _).alloc (Nat.le_refl _) _) hR2)).grown hg4 (fun g hg => (hrow g hg).1) hlt
            obtain ⟨⟨sa, sn, sc⟩, hv4, _⟩ := owns_sl hO4
            have hv4 : v4 = .slice sa sn sc := hv4
            subst hv4
            have HO4 := hide hO4
            have cF4 : w4.cell? ⟨R, 18, none⟩ = some (.slice ta tn tc) := (unhide HP4).codes
            have fF4 : w4.frozen? ⟨R, 18, none⟩ = false := (unhide HP4).codes_f
            clear hO4 hg4 hrow cF2 cF3 HP2 HRS2 HBX2
            refine hK.out _ _ trivial (fun hHeld => ?_)
            clear hK K
            simp only [Act.put, List.setIfInBounds_toArray, List.set_cons_zero, List.set_cons_succ]
            refine wpAnyH_take (i := 9) (oi := opKList4) (v := ?v5) rfl (by kernel_rfl) (by kernel_rfl) (by kernel_rfl) (fun _ _ _ h => h) (Or.inl ⟨by rfl, ?hy5⟩) (by assumption) ?rest5
            case hy5 => (intro w hSw; (try dsimp only at hSw); go_simp; (try rw [if_pos (by omega)]); (try with_reducible rfl))
            simp only [Act.put, List.setIfInBounds_toArray, List.set_cons_zero, List.set_cons_succ]
            refine wpAnyH_take (i := 10) (oi := opKList5) (v := ?v6) rfl (by kernel_rfl) (by kernel_rfl) (by kernel_rfl) (fun _ _ _ h => h) (Or.inl ⟨by rfl, ?hy6⟩) (by assumption) ?rest6
            case hy6 => (intro w hSw; (try dsimp only at hSw); go_simp; (try rw [if_pos (by omega)]); (try with_reducible rfl))
            simp only [Act.put, List.setIfInBounds_toArray, List.set_cons_zero, List.set_cons_succ]
            refine wpAnyH_ready (rs := [11]) (by kernel_rfl) (by simp) ?_
            refine AllReadyH.cons (o := opKList6) rfl (fun K hK => ?_) AllReadyH.nil
            go_simp
            refine hK.out _ _ trivial (fun hHeld => ?_)
            clear hK K
            refine wpAnyH_done (by kernel_rfl) ?_ _
            refine NoPanic.normal ?_
            have HRS5 : Hid (RS w0 (w4.setCell ⟨R, 18, none⟩ (.slice sa sn sc)) R st2) := ((unhide HRS4).less (fun g => g = R) rfl (fun g hg => by rw [hXd]; exact .inl hg)).set 18 _ (by decide)
            have HP5 : Hid (Pk (w4.setCell ⟨R, 18, none⟩ (.slice sa sn sc)) R { p with codes := ⟨sa, sn, sc⟩ }) := (unhide HP4).set_codes ⟨sa, sn, sc⟩
            have HBX5 : Hid (BX R isAny w (w4.setCell ⟨R, 18, none⟩ (.slice sa sn sc))) := (unhide HBX4).set 18 _ trivial
            have HO5 : Hid ((w4.setCell ⟨R, 18, none⟩ (.slice sa sn sc)).ownsRow w.heap.size 3 1 (.slice sa sn sc) (k + 1) ((d ++ [x]).map (Value.int .i64))) := by
              show World.ownsRow _ _ _ _ _ _ _
              rw [show ((d ++ [x]).map (Value.int .i64)) = (d.map (Value.int .i64)) ++ [.int .i64 x] from by simp]
              exact owns_bx (unhide HO4) ((BX.refl R isAny w4).set 18 _ trivial) hlt
            have HA5 : Hid (Acc one? st (d ++ [x]) st2) := (unhide HAcc).step one?_shr (unhide HST2) hl0
            have HB5 : Hid (∀ l', st2 = some l' → (k + 1) + l'.length ≤ 65536) := by
              intro l' hl'
              subst hl'
              have h2 := stp_len one?_shr (unhide HST2)
              have h3 := (unhide HB) l rfl
              omega
            have hM : mlen R (w4.setCell ⟨R, 18, none⟩ (.slice sa sn sc)) < mlen R wr := by
              rw [mlen_some (unhide HRS)]
              cases st2 with
              | none => rw [mlen_none (unhide HRS5)]; omega
              | some l' =>
                rw [mlen_some (unhide HRS5)]
                have := stp_len one?_shr (unhide HST2)
                omega
            have hk1 : k + 1 ≤ 65536 := by
              have h3 := (unhide HB) l rfl
              have := List.length_pos_iff.2 hl0
              omega
            have HD5 : Hid ((d ++ [x]).length = k + 1) := by show _ = _; rw [List.length_append, unhide HD]; rfl
            clear HRS4 HP4 HBX4 HO4 cF4 fF4
            go_wp2
            go_roundw
            case rel => exact ⟨d ++ [x], st2, ⟨sa, sn, sc⟩, k + 1, by go_num, hk1, HD5, HB5, HP5, HO5, HA5, HRS5, HBX5⟩
            case measure => exact hM
    · clear gl
      go_wp2_with fail
      refine (mayCount_any k _).mono ?_
      rintro e wa ⟨rfl, hwa⟩
      obtain rfl := hwa.symm
      clear hwa
      go_wp2_with fail
      refine (must_any R _ none w0 wr (unhide HRS)).mono ?_
      rintro e wb ⟨rfl, h2, hx2⟩
      have H2 := hide h2
      have HX2 := hide hx2
      clear h2 hx2
      go_wp2
      go_end0
      refine ⟨rfl, ⟨ta, tn, tc⟩, d, _, (unhide HPk).bx (unhide HX2), ?_, ?_, unhide H2, (unhide HBX).trans (unhide HX2).any⟩
      · show World.ownsRow _ _ _ _ _ _ _
        rw [unhide HD]
        exact owns_bx (unhide HOwn) (unhide HX2) hlt
      · refine ((unhide HAcc).done (.inl rfl)).bind ((?_ : Stp (mustR (mc d.length)) none () (if mc k then none else none)).bind (Stp.pure _ _))
        rw [unhide HD]
        exact Stp.must _ _
def Listfilters (w0 : World) (R : Nat) (p : Pkv) (st : Option (List Int)) (w : World) (e : Ending) (w' : World) : Prop :=
  e = .returned (.tuple #[]) ∧ ∃ (t : Sl) (d : List ByteArray) (st' : Option (List Int)), Pk w' R { p with filters := t } ∧ Hid (w'.ownsRow w.heap.size 9 1 t.val d.length (d.map Value.string)) ∧ Stp (list? text?) st d st' ∧ RS w0 w' R st' ∧ BX R isAny w w'
set_option maxHeartbeats 4000000 in
theorem list_filters (R : Nat) (p : Pkv) (st : Option (List Int)) (w0 w : World) (h : RS w0 w R st) (hp : Pk w R p) (hF : p.filters = ⟨none, 0, 0⟩) (hl : ∀ l, st = some l → l.length ≤ 65536) (h10 : p.kind = 10) : Calls Tryz.prog 123 #[.pointer (some ⟨R, 0, none⟩)] w (Listfilters w0 R p st w) := by
  obtain ⟨i0, hi, hz0, hz1, hz2⟩ := info_parts infoStr
  have hlt := h.lt
  have HW0 := h.keep
  have HP := hide hp
  have HS := hide h
  have HL := hide hl
  have HF := hide hF
  clear hp h hl hF
  go_enter Tryz.func123, Tryz.ntmps123
  go_wp2
  go_loopw [3] (fun c0 wr => ∃ (d : List ByteArray) (st1 : Option (List Int)) (t : Sl) (k : Nat), c0 = .int .i64 k ∧ k ≤ 65536 ∧ Hid (d.length = k) ∧ Hid (∀ l, st1 = some l → k + l.length ≤ 65536) ∧ Hid (Pk wr R { p with filters := t }) ∧ Hid (wr.ownsRow w.heap.size 9 1 t.val k (d.map Value.string)) ∧ Hid (Acc text? st d st1) ∧ Hid (RS w0 wr R st1) ∧ Hid (BX R isAny w wr)) (fun _ wr => mlen R wr)
  case atStart =>
    refine ⟨[], st, ⟨none, 0, 0⟩, 0, rfl, Nat.zero_le _, rfl, fun l hl => by have := (unhide HL) l hl; omega, ?_, World.ownsRow_nil _ _ _ _, Acc.start _ _, unhide HS, BX.refl _ _ _⟩
    show Pk _ _ _
    have e : { p with filters := ⟨none, 0, 0⟩ } = p := by rw [← unhide HF]
    rw [e]
    exact unhide HP
  case round =>
    obtain ⟨d, st1, ⟨ta, tn, tc⟩, k, rfl, hk, HD, HB, HPk, HOwn, HAcc, HRS, HBX⟩ := hrel
    obtain ⟨ao, m, cap, c19, ⟨g1, g2⟩, gl⟩ := (unhide HRS).rest
    unfold maxLen at g2
    have c0 := (unhide HPk).kind
    simp only at c0
    have cF : wr.cell? ⟨R, 17, none⟩ = some (.slice ta tn tc) := (unhide HPk).filters
    rw [h10] at c0
    rcases (unhide HRS).err with ⟨l, rfl, c20⟩ | ⟨rfl, ty, x, c20⟩
    · have hm := gl l rfl
      clear gl
      by_cases hm0 : m = 0
      · subst hm0
        obtain rfl : l = [] := List.length_eq_zero_iff.1 hm
        go_wp2_with fail
        refine (mayCount_any k _).mono ?_
        rintro e wa ⟨rfl, hwa⟩
        obtain rfl := hwa.symm
        clear hwa
        go_wp2_with fail
        refine (must_any R _ (some []) w0 wr (unhide HRS)).mono ?_
        rintro e wb ⟨rfl, h2, hx2⟩
        have H2 := hide h2
        have HX2 := hide hx2
        clear h2 hx2
        go_wp2
        go_end0
        refine ⟨rfl, ⟨ta, tn, tc⟩, d, _, (unhide HPk).bx (unhide HX2), ?_, ?_, unhide H2, (unhide HBX).trans (unhide HX2).any⟩
        · show World.ownsRow _ _ _ _ _ _ _
          rw [unhide HD]
          exact owns_bx (unhide HOwn) (unhide HX2) hlt
        · refine ((unhide HAcc).done (.inr rfl)).bind ((?_ : Stp (mustR (mc d.length)) (some []) () (if mc k then (some []) else none)).bind (Stp.pure _ _))
          rw [unhide HD]
          exact Stp.must _ _
      · have hl0 : l ≠ [] := fun e => hm0 (by rw [← hm, e]; rfl)
        have hbd := bel_drew wr
        obtain ⟨X, hXd⟩ : ∃ X : Nat → Prop, X = fun g => g = R ∨ some g = (Value.slice ta tn tc).ownBlock := ⟨_, rfl⟩
        have HRSd : Hid (RSX w0 wr.drew R X (some l)) := by
          subst hXd
          exact ((unhide HRS).below hbd).good _ ⟨.inl rfl, fun g hg => by
            rcases hg with rfl | hg
            · exact Nat.lt_of_lt_of_le hlt (unhide HBX).size
            · exact ((unhide HOwn).lt g hg.symm).2⟩
        have HPd := hide ((unhide HPk).below hbd)
        have HBXd : Hid (BX R isAny w wr.drew) := (unhide HBX).trans (BX.of_below hbd (unhide HRS).lt)
        have HOd : Hid (wr.drew.ownsRow w.heap.size 9 1 (.slice ta tn tc) k (d.map Value.string)) := owns_below (unhide HOwn) hbd
        clear hbd
        go_wp2_with fail
        refine wp_region_noPanic ?_
        refine wp_region_held_drew (S := fun _ => True) (by kernel_rfl) trivial (fun hHeld => ?_)
        refine wpAnyH_take (i := 0) (oi := { dst := some 52, op := Op.move (Operand.tmp 2), type := 108, pos := "read.go:101", after := #[], guard := none }) (v := ?v18) rfl (by kernel_rfl) (by kernel_rfl) (by kernel_rfl) (fun _ _ _ h => h) (Or.inl ⟨by rfl, ?hy18⟩) (by assumption) ?rest18
        case hy18 => (intro w hSw; (try dsimp only at hSw); go_simp; (try rw [if_pos (by omega)]); (try with_reducible rfl))
        simp only [Act.put, List.setIfInBounds_toArray, List.set_cons_zero, List.set_cons_succ]
        refine wpAnyH_take (i := 1) (oi := { dst := some 53, op := Op.move (Operand.tmp 2), type := 108, pos := "read.go:101", after := #[], guard := none }) (v := ?v19) rfl (by kernel_rfl) (by kernel_rfl) (by kernel_rfl) (fun _ _ _ h => h) (Or.inl ⟨by rfl, ?hy19⟩) (by assumption) ?rest19
        case hy19 => (intro w hSw; (try dsimp only at hSw); go_simp; (try rw [if_pos (by omega)]); (try with_reducible rfl))
        simp only [Act.put, List.setIfInBounds_toArray, List.set_cons_zero, List.set_cons_succ]
        refine wpAnyH_take (i := 2) (oi := { dst := some 54, op := Op.nilCheck (Operand.tmp 53), type := 0, pos := "read.go:101", after := #[{ on := 1, ground := Ground.data }], guard := none }) (v := ?v20) rfl (by kernel_rfl) (by kernel_rfl) (by kernel_rfl) (fun _ _ _ h => h) (Or.inl ⟨by rfl, ?hy20⟩) (by assumption) ?rest20
        case hy20 => (intro w hSw; (try dsimp only at hSw); go_simp; (try rw [if_pos (by omega)]); (try with_reducible rfl))
        simp only [Act.put, List.setIfInBounds_toArray, List.set_cons_zero, List.set_cons_succ]
        refine wpAnyH_take (i := 3) (oi := { dst := some 55, op := Op.fieldAddr 30 (Operand.tmp 54) 17, type := 0, pos := "read.go:101", after := #[{ on := 2, ground := Ground.data }], guard := none }) (v := ?v21) rfl (by kernel_rfl) (by kernel_rfl) (by kernel_rfl) (fun _ _ _ h => h) (Or.inl ⟨by rfl, ?hy21⟩) (by assumption) ?rest21
        case hy21 => (intro w hSw; (try dsimp only at hSw); go_simp; (try rw [if_pos (by omega)]); (try with_reducible rfl))
        simp only [Act.put, List.setIfInBounds_toArray, List.set_cons_zero, List.set_cons_succ]
        refine wpAnyH_take (i := 5) (oi := { dst := some 57, op := Op.move (Operand.tmp 0), type := 143, pos := "read.go:101", after := #[], guard := none }) (v := ?v22) rfl (by kernel_rfl) (by kernel_rfl) (by kernel_rfl) (fun _ _ _ h => h) (Or.inl ⟨by rfl, ?hy22⟩) (by assumption) ?rest22
        case hy22 => (intro w hSw; (try dsimp only at hSw); go_simp; (try rw [if_pos (by omega)]); (try with_reducible rfl))
        simp only [Act.put, List.setIfInBounds_toArray, List.set_cons_zero, List.set_cons_succ]
        refine wpAnyH_ready (rs := [4, 6]) (by kernel_rfl) (by simp) ?_
        refine AllReadyH.cons (o := opKList7) rfl (fun K hK => ?_) (AllReadyH.cons (o := opKList8) rfl (fun K hK => ?_) AllReadyH.nil)
        · go_simp
          refine hK.out _ _ trivial (fun hHeld => ?_)
          clear hK K
          refine wpAnyH_ready (rs := [6]) (by kernel_rfl) (by simp) ?_
          refine AllReadyH.cons (o := opKList8) rfl (fun K hK => ?_) AllReadyH.nil
          go_simp
          refine (text_anyX R X (some l) w0 _ (unhide HRSd)).mono ?_
          rintro e w2 ⟨x, st2, rfl, -, hs2, h2, hx2⟩
          have cF2 : w2.cell? ⟨R, 17, none⟩ = some (.slice ta tn tc) := (hx2.cell 17 (by unfold isRE; omega)).trans cF
          have hs2l : w.heap.size ≤ w2.heap.size := Nat.le_trans (unhide HBX).size hx2.size
          have HP2 := hide ((unhide HPd).bx hx2)
          have HRS2 := hide h2
          have HST2 := hide hs2
          have HBX2 : Hid (BX R isAny w w2) := (unhide HBXd).trans hx2.any
          have HO2 : Hid (w2.ownsRow w.heap.size 9 1 (.slice ta tn tc) k (d.map Value.string)) := owns_bx (unhide HOd) hx2 hlt
          have hR2 : R < w2.heap.size := Nat.lt_of_lt_of_le hlt hs2l
          have cF3 : (w2.alloc (.cells #[.string x] 9)).cell? ⟨R, 17, none⟩ = some (.slice ta tn tc) := (World.cell?_alloc_lt _ _ ⟨R, 17, none⟩ hR2).trans cF2
          clear hx2 h2 hs2
          refine hK.out _ _ trivial (fun hHeld => ?_)
          clear hK K
          refine wpAnyH_ready (rs := [7]) (by kernel_rfl) (by simp) ?_
          refine AllReadyH.cons (o := opKList9) rfl (fun K hK => ?_) AllReadyH.nil
          go_simp
          refine hK.out _ _ trivial (fun hHeld => ?_)
          clear hK K
          refine wpAnyH_ready (rs := [8]) (by kernel_rfl) (by simp) ?_
          refine AllReadyH.cons (o := opKList10) rfl (fun K hK => ?_) AllReadyH.nil
          refine step_append_run (Z := fun v' w' => w'.ownsRow w.heap.size 9 1 v' (k + 1) ((d.map Value.string) ++ [.string x]) ∧ (w2.alloc (.cells #[.string x] 9)).grownBy w' (Value.slice ta tn tc).ownBlock) rfl _ _ 26 rfl (.slice ta tn tc) (.slice (some ⟨w2.heap.size, 0, none⟩) 1 1) rfl rfl ?hr ?_
          case hr =>
            obtain ⟨v4, w4, h1, h2, h3, _⟩ := run_append_own (P := Tryz.prog) (w := (w2.alloc (.cells #[.string x] 9))) w.heap.size 26 26 9 i0 _ 1 16 Tryz.underlying26 hi hz0 hz1 hz2 rfl (by decide) (.slice ta tn tc) k _ ((unhide HO2).alloc _) ⟨w2.heap.size, 0, none⟩ 1 1 [.string x] rfl (one_cell _ _ _) (one_str _) (by unfold maxLen; omega) (by omega) (by simp; omega)
            exact ⟨v4, w4, h1, h2, h3⟩
          rintro v4 w4 ⟨hO4, hg4⟩
          have hrow : ∀ g, (Value.slice ta tn tc).ownBlock = some g → w.heap.size ≤ g ∧ g < wr.heap.size := fun g hg => (unhide HOwn).lt g hg
          have hrR : (Value.slice ta tn tc).ownBlock ≠ some R := fun e => by have := (hrow R e).1; omega
          have HP4 : Hid (Pk w4 R { p with filters := ⟨ta, tn, tc⟩ }) := ((unhide HP2).below ((Below.refl _ _).alloc (Nat.le_refl _) _)).grown hg4 hrR
          have h0w : w0.heap.size ≤ w.heap.size := HW0.size
          have HRS4 : Hid (RSX w0 w4 R X st2) := ((unhide HRS2).below ((Below.refl _ _).alloc (Nat.le_refl _) _)).grown hg4 (fun g hg => by rw [hXd]; exact .inr hg.symm) hrR (fun g hg => Nat.le_trans h0w (hrow g hg).1)
          have HBX4 : Hid (BX R isAny w w4) := ((unhide HBX2).trans (BX.of_below ((Below.refl _ _).alloc (Nat.le_refl _) _) hR2)).grown hg4 (fun g hg => (hrow g hg).1) hlt
          obtain ⟨⟨sa, sn, sc⟩, hv4, _⟩ := owns_sl hO4
          have hv4 : v4 = .slice sa sn sc := hv4
          subst hv4
          have HO4 := hide hO4
          have cF4 : w4.cell? ⟨R, 17, none⟩ = some (.slice ta tn tc) := (unhide HP4).filters
          have fF4 : w4.frozen? ⟨R, 17, none⟩ = false := (unhide HP4).filters_f
          clear hO4 hg4 hrow cF2 cF3 HP2 HRS2 HBX2
          refine hK.out _ _ trivial (fun hHeld => ?_)
          clear hK K
          simp only [Act.put, List.setIfInBounds_toArray, List.set_cons_zero, List.set_cons_succ]
          refine wpAnyH_take (i := 9) (oi := opKList11) (v := ?v12) rfl (by kernel_rfl) (by kernel_rfl) (by kernel_rfl) (fun _ _ _ h => h) (Or.inl ⟨by rfl, ?hy12⟩) (by assumption) ?rest12
          case hy12 => (intro w hSw; (try dsimp only at hSw); go_simp; (try rw [if_pos (by omega)]); (try with_reducible rfl))
          simp only [Act.put, List.setIfInBounds_toArray, List.set_cons_zero, List.set_cons_succ]
          refine wpAnyH_take (i := 10) (oi := opKList12) (v := ?v13) rfl (by kernel_rfl) (by kernel_rfl) (by kernel_rfl) (fun _ _ _ h => h) (Or.inl ⟨by rfl, ?hy13⟩) (by assumption) ?rest13
          case hy13 => (intro w hSw; (try dsimp only at hSw); go_simp; (try rw [if_pos (by omega)]); (try with_reducible rfl))
          simp only [Act.put, List.setIfInBounds_toArray, List.set_cons_zero, List.set_cons_succ]
          refine wpAnyH_ready (rs := [11]) (by kernel_rfl) (by simp) ?_
          refine AllReadyH.cons (o := opKList13) rfl (fun K hK => ?_) AllReadyH.nil
          go_simp
          refine hK.out _ _ trivial (fun hHeld => ?_)
          clear hK K
          refine wpAnyH_done (by kernel_rfl) ?_ _
          refine NoPanic.normal ?_
          have HRS5 : Hid (RS w0 (w4.setCell ⟨R, 17, none⟩ (.slice sa sn sc)) R st2) := ((unhide HRS4).less (fun g => g = R) rfl (fun g hg => by rw [hXd]; exact .inl hg)).set 17 _ (by decide)
          have HP5 : Hid (Pk (w4.setCell ⟨R, 17, none⟩ (.slice sa sn sc)) R { p with filters := ⟨sa, sn, sc⟩ }) := (unhide HP4).set_filters ⟨sa, sn, sc⟩
          have HBX5 : Hid (BX R isAny w (w4.setCell ⟨R, 17, none⟩ (.slice sa sn sc))) := (unhide HBX4).set 17 _ trivial
          have HO5 : Hid ((w4.setCell ⟨R, 17, none⟩ (.slice sa sn sc)).ownsRow w.heap.size 9 1 (.slice sa sn sc) (k + 1) ((d ++ [x]).map Value.string)) := by
            show World.ownsRow _ _ _ _ _ _ _
            rw [show ((d ++ [x]).map Value.string) = (d.map Value.string) ++ [.string x] from by simp]
            exact owns_bx (unhide HO4) ((BX.refl R isAny w4).set 17 _ trivial) hlt
          have HA5 : Hid (Acc text? st (d ++ [x]) st2) := (unhide HAcc).step text?_shr (unhide HST2) hl0
          have HB5 : Hid (∀ l', st2 = some l' → (k + 1) + l'.length ≤ 65536) := by
            intro l' hl'
            subst hl'
            have h2 := stp_len text?_shr (unhide HST2)
            have h3 := (unhide HB) l rfl
            omega
          have hM : mlen R (w4.setCell ⟨R, 17, none⟩ (.slice sa sn sc)) < mlen R wr := by
            rw [mlen_some (unhide HRS)]
            cases st2 with
            | none => rw [mlen_none (unhide HRS5)]; omega
            | some l' =>
              rw [mlen_some (unhide HRS5)]
              have := stp_len text?_shr (unhide HST2)
              omega
          have hk1 : k + 1 ≤ 65536 := by
            have h3 := (unhide HB) l rfl
            have := List.length_pos_iff.2 hl0
            omega
          have HD5 : Hid ((d ++ [x]).length = k + 1) := by show _ = _; rw [List.length_append, unhide HD]; rfl
          clear HRS4 HP4 HBX4 HO4 cF4 fF4
          go_wp2
          go_roundw
          case rel => exact ⟨d ++ [x], st2, ⟨sa, sn, sc⟩, k + 1, by go_num, hk1, HD5, HB5, HP5, HO5, HA5, HRS5, HBX5⟩
          case measure => exact hM
        · go_simp
          refine (text_anyX R X (some l) w0 _ (unhide HRSd)).mono ?_
          rintro e w2 ⟨x, st2, rfl, -, hs2, h2, hx2⟩
          have cF2 : w2.cell? ⟨R, 17, none⟩ = some (.slice ta tn tc) := (hx2.cell 17 (by unfold isRE; omega)).trans cF
          have hs2l : w.heap.size ≤ w2.heap.size := Nat.le_trans (unhide HBX).size hx2.size
          have HP2 := hide ((unhide HPd).bx hx2)
          have HRS2 := hide h2
          have HST2 := hide hs2
          have HBX2 : Hid (BX R isAny w w2) := (unhide HBXd).trans hx2.any
          have HO2 : Hid (w2.ownsRow w.heap.size 9 1 (.slice ta tn tc) k (d.map Value.string)) := owns_bx (unhide HOd) hx2 hlt
          have hR2 : R < w2.heap.size := Nat.lt_of_lt_of_le hlt hs2l
          have cF3 : (w2.alloc (.cells #[.string x] 9)).cell? ⟨R, 17, none⟩ = some (.slice ta tn tc) := (World.cell?_alloc_lt _ _ ⟨R, 17, none⟩ hR2).trans cF2
          clear hx2 h2 hs2
          refine hK.out _ _ trivial (fun hHeld => ?_)
          clear hK K
          refine wpAnyH_ready (rs := [4, 7]) (by kernel_rfl) (by simp) ?_
          refine AllReadyH.cons (o := opKList7) rfl (fun K hK => ?_) (AllReadyH.cons (o := opKList9) rfl (fun K hK => ?_) AllReadyH.nil)
          · go_simp
            refine hK.out _ _ trivial (fun hHeld => ?_)
            clear hK K
            refine wpAnyH_ready (rs := [7]) (by kernel_rfl) (by simp) ?_
            refine AllReadyH.cons (o := opKList9) rfl (fun K hK => ?_) AllReadyH.nil
            go_simp
            refine hK.out _ _ trivial (fun hHeld => ?_)
            clear hK K
            refine wpAnyH_ready (rs := [8]) (by kernel_rfl) (by simp) ?_
            refine AllReadyH.cons (o := opKList10) rfl (fun K hK => ?_) AllReadyH.nil
            refine step_append_run (Z := fun v' w' => w'.ownsRow w.heap.size 9 1 v' (k + 1) ((d.map Value.string) ++ [.string x]) ∧ (w2.alloc (.cells #[.string x] 9)).grownBy w' (Value.slice ta tn tc).ownBlock) rfl _ _ 26 rfl (.slice ta tn tc) (.slice (some ⟨w2.heap.size, 0, none⟩) 1 1) rfl rfl ?hr ?_
            case hr =>
              obtain ⟨v4, w4, h1, h2, h3, _⟩ := run_append_own (P := Tryz.prog) (w := (w2.alloc (.cells #[.string x] 9))) w.heap.size 26 26 9 i0 _ 1 16 Tryz.underlying26 hi hz0 hz1 hz2 rfl (by decide) (.slice ta tn tc) k _ ((unhide HO2).alloc _) ⟨w2.heap.size, 0, none⟩ 1 1 [.string x] rfl (one_cell _ _ _) (one_str _) (by unfold maxLen; omega) (by omega) (by simp; omega)
              exact ⟨v4, w4, h1, h2, h3⟩
            rintro v4 w4 ⟨hO4, hg4⟩
            have hrow : ∀ g, (Value.slice ta tn tc).ownBlock = some g → w.heap.size ≤ g ∧ g < wr.heap.size := fun g hg => (unhide HOwn).lt g hg
            have hrR : (Value.slice ta tn tc).ownBlock ≠ some R := fun e => by have := (hrow R e).1; omega
            have HP4 : Hid (Pk w4 R { p with filters := ⟨ta, tn, tc⟩ }) := ((unhide HP2).below ((Below.refl _ _).alloc (Nat.le_refl _) _)).grown hg4 hrR
            have h0w : w0.heap.size ≤ w.heap.size := HW0.size
            have HRS4 : Hid (RSX w0 w4 R X st2) := ((unhide HRS2).below ((Below.refl _ _).alloc (Nat.le_refl _) _)).grown hg4 (fun g hg => by rw [hXd]; exact .inr hg.symm) hrR (fun g hg => Nat.le_trans h0w (hrow g hg).1)
            have HBX4 : Hid (BX R isAny w w4) := ((unhide HBX2).trans (BX.of_below ((Below.refl _ _).alloc (Nat.le_refl _) _) hR2)).grown hg4 (fun g hg => (hrow g hg).1) hlt
            obtain ⟨⟨sa, sn, sc⟩, hv4, _⟩ := owns_sl hO4
            have hv4 : v4 = .slice sa sn sc := hv4
            subst hv4
            have HO4 := hide hO4
            have cF4 : w4.cell? ⟨R, 17, none⟩ = some (.slice ta tn tc) := (unhide HP4).filters
            have fF4 : w4.frozen? ⟨R, 17, none⟩ = false := (unhide HP4).filters_f
            clear hO4 hg4 hrow cF2 cF3 HP2 HRS2 HBX2
            refine hK.out _ _ trivial (fun hHeld => ?_)
            clear hK K
            simp only [Act.put, List.setIfInBounds_toArray, List.set_cons_zero, List.set_cons_succ]
            refine wpAnyH_take (i := 9) (oi := opKList11) (v := ?v14) rfl (by kernel_rfl) (by kernel_rfl) (by kernel_rfl) (fun _ _ _ h => h) (Or.inl ⟨by rfl, ?hy14⟩) (by assumption) ?rest14
            case hy14 => (intro w hSw; (try dsimp only at hSw); go_simp; (try rw [if_pos (by omega)]); (try with_reducible rfl))
            simp only [Act.put, List.setIfInBounds_toArray, List.set_cons_zero, List.set_cons_succ]
            refine wpAnyH_take (i := 10) (oi := opKList12) (v := ?v15) rfl (by kernel_rfl) (by kernel_rfl) (by kernel_rfl) (fun _ _ _ h => h) (Or.inl ⟨by rfl, ?hy15⟩) (by assumption) ?rest15
            case hy15 => (intro w hSw; (try dsimp only at hSw); go_simp; (try rw [if_pos (by omega)]); (try with_reducible rfl))
            simp only [Act.put, List.setIfInBounds_toArray, List.set_cons_zero, List.set_cons_succ]
            refine wpAnyH_ready (rs := [11]) (by kernel_rfl) (by simp) ?_
            refine AllReadyH.cons (o := opKList13) rfl (fun K hK => ?_) AllReadyH.nil
            go_simp
            refine hK.out _ _ trivial (fun hHeld => ?_)
            clear hK K
            refine wpAnyH_done (by kernel_rfl) ?_ _
            refine NoPanic.normal ?_
            have HRS5 : Hid (RS w0 (w4.setCell ⟨R, 17, none⟩ (.slice sa sn sc)) R st2) := ((unhide HRS4).less (fun g => g = R) rfl (fun g hg => by rw [hXd]; exact .inl hg)).set 17 _ (by decide)
            have HP5 : Hid (Pk (w4.setCell ⟨R, 17, none⟩ (.slice sa sn sc)) R { p with filters := ⟨sa, sn, sc⟩ }) := (unhide HP4).set_filters ⟨sa, sn, sc⟩
            have HBX5 : Hid (BX R isAny w (w4.setCell ⟨R, 17, none⟩ (.slice sa sn sc))) := (unhide HBX4).set 17 _ trivial
            have HO5 : Hid ((w4.setCell ⟨R, 17, none⟩ (.slice sa sn sc)).ownsRow w.heap.size 9 1 (.slice sa sn sc) (k + 1) ((d ++ [x]).map Value.string)) := by
              show World.ownsRow _ _ _ _ _ _ _
              rw [show ((d ++ [x]).map Value.string) = (d.map Value.string) ++ [.string x] from by simp]
              exact owns_bx (unhide HO4) ((BX.refl R isAny w4).set 17 _ trivial) hlt
            have HA5 : Hid (Acc text? st (d ++ [x]) st2) := (unhide HAcc).step text?_shr (unhide HST2) hl0
            have HB5 : Hid (∀ l', st2 = some l' → (k + 1) + l'.length ≤ 65536) := by
              intro l' hl'
              subst hl'
              have h2 := stp_len text?_shr (unhide HST2)
              have h3 := (unhide HB) l rfl
              omega
            have hM : mlen R (w4.setCell ⟨R, 17, none⟩ (.slice sa sn sc)) < mlen R wr := by
              rw [mlen_some (unhide HRS)]
              cases st2 with
              | none => rw [mlen_none (unhide HRS5)]; omega
              | some l' =>
                rw [mlen_some (unhide HRS5)]
                have := stp_len text?_shr (unhide HST2)
                omega
            have hk1 : k + 1 ≤ 65536 := by
              have h3 := (unhide HB) l rfl
              have := List.length_pos_iff.2 hl0
              omega
            have HD5 : Hid ((d ++ [x]).length = k + 1) := by show _ = _; rw [List.length_append, unhide HD]; rfl
            clear HRS4 HP4 HBX4 HO4 cF4 fF4
            go_wp2
            go_roundw
            case rel => exact ⟨d ++ [x], st2, ⟨sa, sn, sc⟩, k + 1, by go_num, hk1, HD5, HB5, HP5, HO5, HA5, HRS5, HBX5⟩
            case measure => exact hM
          · go_simp
            refine hK.out _ _ trivial (fun hHeld => ?_)
            clear hK K
            refine wpAnyH_ready (rs := [4]) (by kernel_rfl) (by simp) ?_
            refine AllReadyH.cons (o := opKList7) rfl (fun K hK => ?_) AllReadyH.nil
            go_simp
            refine hK.out _ _ trivial (fun hHeld => ?_)
            clear hK K
            refine wpAnyH_ready (rs := [8]) (by kernel_rfl) (by simp) ?_
            refine AllReadyH.cons (o := opKList10) rfl (fun K hK => ?_) AllReadyH.nil
            refine step_append_run (Z := fun v' w' => w'.ownsRow w.heap.size 9 1 v' (k + 1) ((d.map Value.string) ++ [.string x]) ∧ (w2.alloc (.cells #[.string x] 9)).grownBy w' (Value.slice ta tn tc).ownBlock) rfl _ _ 26 rfl (.slice ta tn tc) (.slice (some ⟨w2.heap.size, 0, none⟩) 1 1) rfl rfl ?hr ?_
            case hr =>
              obtain ⟨v4, w4, h1, h2, h3, _⟩ := run_append_own (P := Tryz.prog) (w := (w2.alloc (.cells #[.string x] 9))) w.heap.size 26 26 9 i0 _ 1 16 Tryz.underlying26 hi hz0 hz1 hz2 rfl (by decide) (.slice ta tn tc) k _ ((unhide HO2).alloc _) ⟨w2.heap.size, 0, none⟩ 1 1 [.string x] rfl (one_cell _ _ _) (one_str _) (by unfold maxLen; omega) (by omega) (by simp; omega)
              exact ⟨v4, w4, h1, h2, h3⟩
            rintro v4 w4 ⟨hO4, hg4⟩
            have hrow : ∀ g, (Value.slice ta tn tc).ownBlock = some g → w.heap.size ≤ g ∧ g < wr.heap.size := fun g hg => (unhide HOwn).lt g hg
            have hrR : (Value.slice ta tn tc).ownBlock ≠ some R := fun e => by have := (hrow R e).1; omega
            have HP4 : Hid (Pk w4 R { p with filters := ⟨ta, tn, tc⟩ }) := ((unhide HP2).below ((Below.refl _ _).alloc (Nat.le_refl _) _)).grown hg4 hrR
            have h0w : w0.heap.size ≤ w.heap.size := HW0.size
            have HRS4 : Hid (RSX w0 w4 R X st2) := ((unhide HRS2).below ((Below.refl _ _).alloc (Nat.le_refl _) _)).grown hg4 (fun g hg => by rw [hXd]; exact .inr hg.symm) hrR (fun g hg => Nat.le_trans h0w (hrow g hg).1)
            have HBX4 : Hid (BX R isAny w w4) := ((unhide HBX2).trans (BX.of_below ((Below.refl _ _).alloc (Nat.le_refl _) _) hR2)).grown hg4 (fun g hg => (hrow g hg).1) hlt
            obtain ⟨⟨sa, sn, sc⟩, hv4, _⟩ := owns_sl hO4
            have hv4 : v4 = .slice sa sn sc := hv4
            subst hv4
            have HO4 := hide hO4
            have cF4 : w4.cell? ⟨R, 17, none⟩ = some (.slice ta tn tc) := (unhide HP4).filters
            have fF4 : w4.frozen? ⟨R, 17, none⟩ = false := (unhide HP4).filters_f
            clear hO4 hg4 hrow cF2 cF3 HP2 HRS2 HBX2
            refine hK.out _ _ trivial (fun hHeld => ?_)
            clear hK K
            simp only [Act.put, List.setIfInBounds_toArray, List.set_cons_zero, List.set_cons_succ]
            refine wpAnyH_take (i := 9) (oi := opKList11) (v := ?v16) rfl (by kernel_rfl) (by kernel_rfl) (by kernel_rfl) (fun _ _ _ h => h) (Or.inl ⟨by rfl, ?hy16⟩) (by assumption) ?rest16
            case hy16 => (intro w hSw; (try dsimp only at hSw); go_simp; (try rw [if_pos (by omega)]); (try with_reducible rfl))
            simp only [Act.put, List.setIfInBounds_toArray, List.set_cons_zero, List.set_cons_succ]
            refine wpAnyH_take (i := 10) (oi := opKList12) (v := ?v17) rfl (by kernel_rfl) (by kernel_rfl) (by kernel_rfl) (fun _ _ _ h => h) (Or.inl ⟨by rfl, ?hy17⟩) (by assumption) ?rest17
            case hy17 => (intro w hSw; (try dsimp only at hSw); go_simp; (try rw [if_pos (by omega)]); (try with_reducible rfl))
            simp only [Act.put, List.setIfInBounds_toArray, List.set_cons_zero, List.set_cons_succ]
            refine wpAnyH_ready (rs := [11]) (by kernel_rfl) (by simp) ?_
            refine AllReadyH.cons (o := opKList13) rfl (fun K hK => ?_) AllReadyH.nil
            go_simp
            refine hK.out _ _ trivial (fun hHeld => ?_)
            clear hK K
            refine wpAnyH_done (by kernel_rfl) ?_ _
            refine NoPanic.normal ?_
            have HRS5 : Hid (RS w0 (w4.setCell ⟨R, 17, none⟩ (.slice sa sn sc)) R st2) := ((unhide HRS4).less (fun g => g = R) rfl (fun g hg => by rw [hXd]; exact .inl hg)).set 17 _ (by decide)
            have HP5 : Hid (Pk (w4.setCell ⟨R, 17, none⟩ (.slice sa sn sc)) R { p with filters := ⟨sa, sn, sc⟩ }) := (unhide HP4).set_filters ⟨sa, sn, sc⟩
            have HBX5 : Hid (BX R isAny w (w4.setCell ⟨R, 17, none⟩ (.slice sa sn sc))) := (unhide HBX4).set 17 _ trivial
            have HO5 : Hid ((w4.setCell ⟨R, 17, none⟩ (.slice sa sn sc)).ownsRow w.heap.size 9 1 (.slice sa sn sc) (k + 1) ((d ++ [x]).map Value.string)) := by
              show World.ownsRow _ _ _ _ _ _ _
              rw [show ((d ++ [x]).map Value.string) = (d.map Value.string) ++ [.string x] from by simp]
              exact owns_bx (unhide HO4) ((BX.refl R isAny w4).set 17 _ trivial) hlt
            have HA5 : Hid (Acc text? st (d ++ [x]) st2) := (unhide HAcc).step text?_shr (unhide HST2) hl0
            have HB5 : Hid (∀ l', st2 = some l' → (k + 1) + l'.length ≤ 65536) := by
              intro l' hl'
              subst hl'
              have h2 := stp_len text?_shr (unhide HST2)
              have h3 := (unhide HB) l rfl
              omega
            have hM : mlen R (w4.setCell ⟨R, 17, none⟩ (.slice sa sn sc)) < mlen R wr := by
              rw [mlen_some (unhide HRS)]
              cases st2 with
              | none => rw [mlen_none (unhide HRS5)]; omega
              | some l' =>
                rw [mlen_some (unhide HRS5)]
                have := stp_len text?_shr (unhide HST2)
                omega
            have hk1 : k + 1 ≤ 65536 := by
              have h3 := (unhide HB) l rfl
              have := List.length_pos_iff.2 hl0
              omega
            have HD5 : Hid ((d ++ [x]).length = k + 1) := by show _ = _; rw [List.length_append, unhide HD]; rfl
            clear HRS4 HP4 HBX4 HO4 cF4 fF4
            go_wp2
            go_roundw
            case rel => exact ⟨d ++ [x], st2, ⟨sa, sn, sc⟩, k + 1, by go_num, hk1, HD5, HB5, HP5, HO5, HA5, HRS5, HBX5⟩
            case measure => exact hM
    · clear gl
      go_wp2_with fail
      refine (mayCount_any k _).mono ?_
      rintro e wa ⟨rfl, hwa⟩
      obtain rfl := hwa.symm
      clear hwa
      go_wp2_with fail
      refine (must_any R _ none w0 wr (unhide HRS)).mono ?_
      rintro e wb ⟨rfl, h2, hx2⟩
      have H2 := hide h2
      have HX2 := hide hx2
      clear h2 hx2
      go_wp2
      go_end0
      refine ⟨rfl, ⟨ta, tn, tc⟩, d, _, (unhide HPk).bx (unhide HX2), ?_, ?_, unhide H2, (unhide HBX).trans (unhide HX2).any⟩
      · show World.ownsRow _ _ _ _ _ _ _
        rw [unhide HD]
        exact owns_bx (unhide HOwn) (unhide HX2) hlt
      · refine ((unhide HAcc).done (.inl rfl)).bind ((?_ : Stp (mustR (mc d.length)) none () (if mc k then none else none)).bind (Stp.pure _ _))
        rw [unhide HD]
        exact Stp.must _ _
def Listsubs (w0 : World) (R : Nat) (p : Pkv) (st : Option (List Int)) (w : World) (e : Ending) (w' : World) : Prop :=
  e = .returned (.tuple #[]) ∧ ∃ (t : Sl) (d : List Sb) (st' : Option (List Int)), Pk w' R { p with subs := t } ∧ Hid (w'.ownsRow w.heap.size 75 5 t.val d.length (scs d)) ∧ Stp (list? sub?) st d st' ∧ RS w0 w' R st' ∧ BX R isAny w w'
set_option maxHeartbeats 4000000 in
theorem list_subs (R : Nat) (p : Pkv) (st : Option (List Int)) (w0 w : World) (h : RS w0 w R st) (hp : Pk w R p) (hF : p.subs = ⟨none, 0, 0⟩) (hl : ∀ l, st = some l → l.length ≤ 65536) (h8 : p.kind = 8) : Calls Tryz.prog 123 #[.pointer (some ⟨R, 0, none⟩)] w (Listsubs w0 R p st w) := by
  obtain ⟨i0, hi, hz0, hz1, hz2⟩ := info_parts infoSub
  have hlt := h.lt
  have HW0 := h.keep
  have HP := hide hp
  have HS := hide h
  have HL := hide hl
  have HF := hide hF
  clear hp h hl hF
  go_enter Tryz.func123, Tryz.ntmps123
  go_wp2
  go_loopw [3] (fun c0 wr => ∃ (d : List Sb) (st1 : Option (List Int)) (t : Sl) (k : Nat), c0 = .int .i64 k ∧ k ≤ 65536 ∧ Hid (d.length = k) ∧ Hid (∀ l, st1 = some l → k + l.length ≤ 65536) ∧ Hid (Pk wr R { p with subs := t }) ∧ Hid (wr.ownsRow w.heap.size 75 5 t.val k (scs d)) ∧ Hid (Acc sub? st d st1) ∧ Hid (RS w0 wr R st1) ∧ Hid (BX R isAny w wr)) (fun _ wr => mlen R wr)
  case atStart =>
    refine ⟨[], st, ⟨none, 0, 0⟩, 0, rfl, Nat.zero_le _, rfl, fun l hl => by have := (unhide HL) l hl; omega, ?_, World.ownsRow_nil _ _ _ _, Acc.start _ _, unhide HS, BX.refl _ _ _⟩
    show Pk _ _ _
    have e : { p with subs := ⟨none, 0, 0⟩ } = p := by rw [← unhide HF]
    rw [e]
    exact unhide HP
  case round =>
    obtain ⟨d, st1, ⟨ta, tn, tc⟩, k, rfl, hk, HD, HB, HPk, HOwn, HAcc, HRS, HBX⟩ := hrel
    obtain ⟨ao, m, cap, c19, ⟨g1, g2⟩, gl⟩ := (unhide HRS).rest
    unfold maxLen at g2
    have c0 := (unhide HPk).kind
    simp only at c0
    have cF : wr.cell? ⟨R, 16, none⟩ = some (.slice ta tn tc) := (unhide HPk).subs
    rw [h8] at c0
    rcases (unhide HRS).err with ⟨l, rfl, c20⟩ | ⟨rfl, ty, x, c20⟩
    · have hm := gl l rfl
      clear gl
      by_cases hm0 : m = 0
      · subst hm0
        obtain rfl : l = [] := List.length_eq_zero_iff.1 hm
        go_wp2_with fail
        refine (mayCount_any k _).mono ?_
        rintro e wa ⟨rfl, hwa⟩
        obtain rfl := hwa.symm
        clear hwa
        go_wp2_with fail
        refine (must_any R _ (some []) w0 wr (unhide HRS)).mono ?_
        rintro e wb ⟨rfl, h2, hx2⟩
        have H2 := hide h2
        have HX2 := hide hx2
        clear h2 hx2
        go_wp2
        go_end0
        refine ⟨rfl, ⟨ta, tn, tc⟩, d, _, (unhide HPk).bx (unhide HX2), ?_, ?_, unhide H2, (unhide HBX).trans (unhide HX2).any⟩
        · show World.ownsRow _ _ _ _ _ _ _
          rw [unhide HD]
          exact owns_bx (unhide HOwn) (unhide HX2) hlt
        · refine ((unhide HAcc).done (.inr rfl)).bind ((?_ : Stp (mustR (mc d.length)) (some []) () (if mc k then (some []) else none)).bind (Stp.pure _ _))
          rw [unhide HD]
          exact Stp.must _ _
      · have hl0 : l ≠ [] := fun e => hm0 (by rw [← hm, e]; rfl)
        have hbd := bel_drew wr
        obtain ⟨X, hXd⟩ : ∃ X : Nat → Prop, X = fun g => g = R ∨ some g = (Value.slice ta tn tc).ownBlock := ⟨_, rfl⟩
        have HRSd : Hid (RSX w0 wr.drew R X (some l)) := by
          subst hXd
          exact ((unhide HRS).below hbd).good _ ⟨.inl rfl, fun g hg => by
            rcases hg with rfl | hg
            · exact Nat.lt_of_lt_of_le hlt (unhide HBX).size
            · exact ((unhide HOwn).lt g hg.symm).2⟩
        have HPd := hide ((unhide HPk).below hbd)
        have HBXd : Hid (BX R isAny w wr.drew) := (unhide HBX).trans (BX.of_below hbd (unhide HRS).lt)
        have HOd : Hid (wr.drew.ownsRow w.heap.size 75 5 (.slice ta tn tc) k (scs d)) := owns_below (unhide HOwn) hbd
        clear hbd
        go_wp2_with fail
        refine wp_region_noPanic ?_
        refine wp_region_held_drew (S := fun _ => True) (by kernel_rfl) trivial (fun hHeld => ?_)
        refine wpAnyH_take (i := 0) (oi := { dst := some 39, op := Op.move (Operand.tmp 2), type := 108, pos := "read.go:99", after := #[], guard := none }) (v := ?v29) rfl (by kernel_rfl) (by kernel_rfl) (by kernel_rfl) (fun _ _ _ h => h) (Or.inl ⟨by rfl, ?hy29⟩) (by assumption) ?rest29
        case hy29 => (intro w hSw; (try dsimp only at hSw); go_simp; (try rw [if_pos (by omega)]); (try with_reducible rfl))
        simp only [Act.put, List.setIfInBounds_toArray, List.set_cons_zero, List.set_cons_succ]
        refine wpAnyH_take (i := 1) (oi := { dst := some 40, op := Op.move (Operand.tmp 2), type := 108, pos := "read.go:99", after := #[], guard := none }) (v := ?v30) rfl (by kernel_rfl) (by kernel_rfl) (by kernel_rfl) (fun _ _ _ h => h) (Or.inl ⟨by rfl, ?hy30⟩) (by assumption) ?rest30
        case hy30 => (intro w hSw; (try dsimp only at hSw); go_simp; (try rw [if_pos (by omega)]); (try with_reducible rfl))
        simp only [Act.put, List.setIfInBounds_toArray, List.set_cons_zero, List.set_cons_succ]
        refine wpAnyH_take (i := 2) (oi := { dst := some 41, op := Op.nilCheck (Operand.tmp 40), type := 0, pos := "read.go:99", after := #[{ on := 1, ground := Ground.data }], guard := none }) (v := ?v31) rfl (by kernel_rfl) (by kernel_rfl) (by kernel_rfl) (fun _ _ _ h => h) (Or.inl ⟨by rfl, ?hy31⟩) (by assumption) ?rest31
        case hy31 => (intro w hSw; (try dsimp only at hSw); go_simp; (try rw [if_pos (by omega)]); (try with_reducible rfl))
        simp only [Act.put, List.setIfInBounds_toArray, List.set_cons_zero, List.set_cons_succ]
        refine wpAnyH_take (i := 3) (oi := { dst := some 42, op := Op.fieldAddr 30 (Operand.tmp 41) 16, type := 0, pos := "read.go:99", after := #[{ on := 2, ground := Ground.data }], guard := none }) (v := ?v32) rfl (by kernel_rfl) (by kernel_rfl) (by kernel_rfl) (fun _ _ _ h => h) (Or.inl ⟨by rfl, ?hy32⟩) (by assumption) ?rest32
        case hy32 => (intro w hSw; (try dsimp only at hSw); go_simp; (try rw [if_pos (by omega)]); (try with_reducible rfl))
        simp only [Act.put, List.setIfInBounds_toArray, List.set_cons_zero, List.set_cons_succ]
        refine wpAnyH_take (i := 5) (oi := { dst := some 44, op := Op.move (Operand.tmp 0), type := 143, pos := "read.go:99", after := #[], guard := none }) (v := ?v33) rfl (by kernel_rfl) (by kernel_rfl) (by kernel_rfl) (fun _ _ _ h => h) (Or.inl ⟨by rfl, ?hy33⟩) (by assumption) ?rest33
        case hy33 => (intro w hSw; (try dsimp only at hSw); go_simp; (try rw [if_pos (by omega)]); (try with_reducible rfl))
        simp only [Act.put, List.setIfInBounds_toArray, List.set_cons_zero, List.set_cons_succ]
        refine wpAnyH_ready (rs := [4, 6]) (by kernel_rfl) (by simp) ?_
        refine AllReadyH.cons (o := opKList14) rfl (fun K hK => ?_) (AllReadyH.cons (o := opKList15) rfl (fun K hK => ?_) AllReadyH.nil)
        · go_simp
          refine hK.out _ _ trivial (fun hHeld => ?_)
          clear hK K
          refine wpAnyH_ready (rs := [6]) (by kernel_rfl) (by simp) ?_
          refine AllReadyH.cons (o := opKList15) rfl (fun K hK => ?_) AllReadyH.nil
          go_simp
          refine (sub_anyX R X (some l) w0 _ (unhide HRSd)).mono ?_
          rintro e w2 ⟨x, st2, rfl, hs2, h2, hx2⟩
          have cF2 : w2.cell? ⟨R, 16, none⟩ = some (.slice ta tn tc) := (hx2.cell 16 (by unfold isRE; omega)).trans cF
          have hs2l : w.heap.size ≤ w2.heap.size := Nat.le_trans (unhide HBX).size hx2.size
          have HP2 := hide ((unhide HPd).bx hx2)
          have HRS2 := hide h2
          have HST2 := hide hs2
          have HBX2 : Hid (BX R isAny w w2) := (unhide HBXd).trans hx2.any
          have HO2 : Hid (w2.ownsRow w.heap.size 75 5 (.slice ta tn tc) k (scs d)) := owns_bx (unhide HOd) hx2 hlt
          have hR2 : R < w2.heap.size := Nat.lt_of_lt_of_le hlt hs2l
          have cF3 : (w2.alloc (.cells #[.string x.filter, .int .i64 x.qos, .bool x.nolocal, .bool x.aspub, .int .i64 x.handling] 75)).cell? ⟨R, 16, none⟩ = some (.slice ta tn tc) := (World.cell?_alloc_lt _ _ ⟨R, 16, none⟩ hR2).trans cF2
          clear hx2 h2 hs2
          refine hK.out _ _ trivial (fun hHeld => ?_)
          clear hK K
          refine wpAnyH_ready (rs := [7]) (by kernel_rfl) (by simp) ?_
          refine AllReadyH.cons (o := opKList16) rfl (fun K hK => ?_) AllReadyH.nil
          go_simp
          refine hK.out _ _ trivial (fun hHeld => ?_)
          clear hK K
          refine wpAnyH_ready (rs := [8]) (by kernel_rfl) (by simp) ?_
          refine AllReadyH.cons (o := opKList17) rfl (fun K hK => ?_) AllReadyH.nil
          refine step_append_run (Z := fun v' w' => w'.ownsRow w.heap.size 75 5 v' (k + 1) ((scs d) ++ x.cells) ∧ (w2.alloc (.cells #[.string x.filter, .int .i64 x.qos, .bool x.nolocal, .bool x.aspub, .int .i64 x.handling] 75)).grownBy w' (Value.slice ta tn tc).ownBlock) rfl _ _ 27 rfl (.slice ta tn tc) (.slice (some ⟨w2.heap.size, 0, none⟩) 1 1) rfl rfl ?hr ?_
          case hr =>
            obtain ⟨v4, w4, h1, h2, h3, _⟩ := run_append_own (P := Tryz.prog) (w := (w2.alloc (.cells #[.string x.filter, .int .i64 x.qos, .bool x.nolocal, .bool x.aspub, .int .i64 x.handling] 75))) w.heap.size 27 27 75 i0 _ 5 40 Tryz.underlying27 hi hz0 hz1 hz2 rfl (by decide) (.slice ta tn tc) k _ ((unhide HO2).alloc _) ⟨w2.heap.size, 0, none⟩ 1 1 x.cells rfl (five_cell _ _ _ _ _ _ _) (five_one _) (by unfold maxLen; omega) (by omega) (by simp; omega)
            exact ⟨v4, w4, h1, h2, h3⟩
          rintro v4 w4 ⟨hO4, hg4⟩
          have hrow : ∀ g, (Value.slice ta tn tc).ownBlock = some g → w.heap.size ≤ g ∧ g < wr.heap.size := fun g hg => (unhide HOwn).lt g hg
          have hrR : (Value.slice ta tn tc).ownBlock ≠ some R := fun e => by have := (hrow R e).1; omega
          have HP4 : Hid (Pk w4 R { p with subs := ⟨ta, tn, tc⟩ }) := ((unhide HP2).below ((Below.refl _ _).alloc (Nat.le_refl _) _)).grown hg4 hrR
          have h0w : w0.heap.size ≤ w.heap.size := HW0.size
          have HRS4 : Hid (RSX w0 w4 R X st2) := ((unhide HRS2).below ((Below.refl _ _).alloc (Nat.le_refl _) _)).grown hg4 (fun g hg => by rw [hXd]; exact .inr hg.symm) hrR (fun g hg => Nat.le_trans h0w (hrow g hg).1)
          have HBX4 : Hid (BX R isAny w w4) := ((unhide HBX2).trans (BX.of_below ((Below.refl _ _).alloc (Nat.le_refl _) _) hR2)).grown hg4 (fun g hg => (hrow g hg).1) hlt
          obtain ⟨⟨sa, sn, sc⟩, hv4, _⟩ := owns_sl hO4
          have hv4 : v4 = .slice sa sn sc := hv4
          subst hv4
          have HO4 := hide hO4
          have cF4 : w4.cell? ⟨R, 16, none⟩ = some (.slice ta tn tc) := (unhide HP4).subs
          have fF4 : w4.frozen? ⟨R, 16, none⟩ = false := (unhide HP4).subs_f
          clear hO4 hg4 hrow cF2 cF3 HP2 HRS2 HBX2
          refine hK.out _ _ trivial (fun hHeld => ?_)
          clear hK K
          simp only [Act.put, List.setIfInBounds_toArray, List.set_cons_zero, List.set_cons_succ]
          refine wpAnyH_take (i := 9) (oi := opKList18) (v := ?v23) rfl (by kernel_rfl) (by kernel_rfl) (by kernel_rfl) (fun _ _ _ h => h) (Or.inl ⟨by rfl, ?hy23⟩) (by assumption) ?rest23
          case hy23 => (intro w hSw; (try dsimp only at hSw); go_simp; (try rw [if_pos (by omega)]); (try with_reducible rfl))
          simp only [Act.put, List.setIfInBounds_toArray, List.set_cons_zero, List.set_cons_succ]
          refine wpAnyH_take (i := 10) (oi := opKList19) (v := ?v24) rfl (by kernel_rfl) (by kernel_rfl) (by kernel_rfl) (fun _ _ _ h => h) (Or.inl ⟨by rfl, ?hy24⟩) (by assumption) ?rest24
          case hy24 => (intro w hSw; (try dsimp only at hSw); go_simp; (try rw [if_pos (by omega)]); (try with_reducible rfl))
          simp only [Act.put, List.setIfInBounds_toArray, List.set_cons_zero, List.set_cons_succ]
          refine wpAnyH_ready (rs := [11]) (by kernel_rfl) (by simp) ?_
          refine AllReadyH.cons (o := opKList20) rfl (fun K hK => ?_) AllReadyH.nil
          go_simp
          refine hK.out _ _ trivial (fun hHeld => ?_)
          clear hK K
          refine wpAnyH_done (by kernel_rfl) ?_ _
          refine NoPanic.normal ?_
          have HRS5 : Hid (RS w0 (w4.setCell ⟨R, 16, none⟩ (.slice sa sn sc)) R st2) := ((unhide HRS4).less (fun g => g = R) rfl (fun g hg => by rw [hXd]; exact .inl hg)).set 16 _ (by decide)
          have HP5 : Hid (Pk (w4.setCell ⟨R, 16, none⟩ (.slice sa sn sc)) R { p with subs := ⟨sa, sn, sc⟩ }) := (unhide HP4).set_subs ⟨sa, sn, sc⟩
          have HBX5 : Hid (BX R isAny w (w4.setCell ⟨R, 16, none⟩ (.slice sa sn sc))) := (unhide HBX4).set 16 _ trivial
          have HO5 : Hid ((w4.setCell ⟨R, 16, none⟩ (.slice sa sn sc)).ownsRow w.heap.size 75 5 (.slice sa sn sc) (k + 1) (scs (d ++ [x]))) := by
            show World.ownsRow _ _ _ _ _ _ _
            rw [show (scs (d ++ [x])) = (scs d) ++ x.cells from by rw [scs_app]]
            exact owns_bx (unhide HO4) ((BX.refl R isAny w4).set 16 _ trivial) hlt
          have HA5 : Hid (Acc sub? st (d ++ [x]) st2) := (unhide HAcc).step sub?_shr (unhide HST2) hl0
          have HB5 : Hid (∀ l', st2 = some l' → (k + 1) + l'.length ≤ 65536) := by
            intro l' hl'
            subst hl'
            have h2 := stp_len sub?_shr (unhide HST2)
            have h3 := (unhide HB) l rfl
            omega
          have hM : mlen R (w4.setCell ⟨R, 16, none⟩ (.slice sa sn sc)) < mlen R wr := by
            rw [mlen_some (unhide HRS)]
            cases st2 with
            | none => rw [mlen_none (unhide HRS5)]; omega
            | some l' =>
              rw [mlen_some (unhide HRS5)]
              have := stp_len sub?_shr (unhide HST2)
              omega
          have hk1 : k + 1 ≤ 65536 := by
            have h3 := (unhide HB) l rfl
            have := List.length_pos_iff.2 hl0
            omega
          have HD5 : Hid ((d ++ [x]).length = k + 1) := by show _ = _; rw [List.length_append, unhide HD]; rfl
          clear HRS4 HP4 HBX4 HO4 cF4 fF4
          go_wp2
          go_roundw
          case rel => exact ⟨d ++ [x], st2, ⟨sa, sn, sc⟩, k + 1, by go_num, hk1, HD5, HB5, HP5, HO5, HA5, HRS5, HBX5⟩
          case measure => exact hM
        · go_simp
          refine (sub_anyX R X (some l) w0 _ (unhide HRSd)).mono ?_
          rintro e w2 ⟨x, st2, rfl, hs2, h2, hx2⟩
          have cF2 : w2.cell? ⟨R, 16, none⟩ = some (.slice ta tn tc) := (hx2.cell 16 (by unfold isRE; omega)).trans cF
          have hs2l : w.heap.size ≤ w2.heap.size := Nat.le_trans (unhide HBX).size hx2.size
          have HP2 := hide ((unhide HPd).bx hx2)
          have HRS2 := hide h2
          have HST2 := hide hs2
          have HBX2 : Hid (BX R isAny w w2) := (unhide HBXd).trans hx2.any
          have HO2 : Hid (w2.ownsRow w.heap.size 75 5 (.slice ta tn tc) k (scs d)) := owns_bx (unhide HOd) hx2 hlt
          have hR2 : R < w2.heap.size := Nat.lt_of_lt_of_le hlt hs2l
          have cF3 : (w2.alloc (.cells #[.string x.filter, .int .i64 x.qos, .bool x.nolocal, .bool x.aspub, .int .i64 x.handling] 75)).cell? ⟨R, 16, none⟩ = some (.slice ta tn tc) := (World.cell?_alloc_lt _ _ ⟨R, 16, none⟩ hR2).trans cF2
          clear hx2 h2 hs2
          refine hK.out _ _ trivial (fun hHeld => ?_)
          clear hK K
          refine wpAnyH_ready (rs := [4, 7]) (by kernel_rfl) (by simp) ?_
          refine AllReadyH.cons (o := opKList14) rfl (fun K hK => ?_) (AllReadyH.cons (o := opKList16) rfl (fun K hK => ?_) AllReadyH.nil)
          · go_simp
            refine hK.out _ _ trivial (fun hHeld => ?_)
            clear hK K
            refine wpAnyH_ready (rs := [7]) (by kernel_rfl) (by simp) ?_
            refine AllReadyH.cons (o := opKList16) rfl (fun K hK => ?_) AllReadyH.nil
            go_simp
            refine hK.out _ _ trivial (fun hHeld => ?_)
            clear hK K
            refine wpAnyH_ready (rs := [8]) (by kernel_rfl) (by simp) ?_
            refine AllReadyH.cons (o := opKList17) rfl (fun K hK => ?_) AllReadyH.nil
            refine step_append_run (Z := fun v' w' => w'.ownsRow w.heap.size 75 5 v' (k + 1) ((scs d) ++ x.cells) ∧ (w2.alloc (.cells #[.string x.filter, .int .i64 x.qos, .bool x.nolocal, .bool x.aspub, .int .i64 x.handling] 75)).grownBy w' (Value.slice ta tn tc).ownBlock) rfl _ _ 27 rfl (.slice ta tn tc) (.slice (some ⟨w2.heap.size, 0, none⟩) 1 1) rfl rfl ?hr ?_
            case hr =>
              obtain ⟨v4, w4, h1, h2, h3, _⟩ := run_append_own (P := Tryz.prog) (w := (w2.alloc (.cells #[.string x.filter, .int .i64 x.qos, .bool x.nolocal, .bool x.aspub, .int .i64 x.handling] 75))) w.heap.size 27 27 75 i0 _ 5 40 Tryz.underlying27 hi hz0 hz1 hz2 rfl (by decide) (.slice ta tn tc) k _ ((unhide HO2).alloc _) ⟨w2.heap.size, 0, none⟩ 1 1 x.cells rfl (five_cell _ _ _ _ _ _ _) (five_one _) (by unfold maxLen; omega) (by omega) (by simp; omega)
              exact ⟨v4, w4, h1, h2, h3⟩
            rintro v4 w4 ⟨hO4, hg4⟩
            have hrow : ∀ g, (Value.slice ta tn tc).ownBlock = some g → w.heap.size ≤ g ∧ g < wr.heap.size := fun g hg => (unhide HOwn).lt g hg
            have hrR : (Value.slice ta tn tc).ownBlock ≠ some R := fun e => by have := (hrow R e).1; omega
            have HP4 : Hid (Pk w4 R { p with subs := ⟨ta, tn, tc⟩ }) := ((unhide HP2).below ((Below.refl _ _).alloc (Nat.le_refl _) _)).grown hg4 hrR
            have h0w : w0.heap.size ≤ w.heap.size := HW0.size
            have HRS4 : Hid (RSX w0 w4 R X st2) := ((unhide HRS2).below ((Below.refl _ _).alloc (Nat.le_refl _) _)).grown hg4 (fun g hg => by rw [hXd]; exact .inr hg.symm) hrR (fun g hg => Nat.le_trans h0w (hrow g hg).1)
            have HBX4 : Hid (BX R isAny w w4) := ((unhide HBX2).trans (BX.of_below ((Below.refl _ _).alloc (Nat.le_refl _) _) hR2)).grown hg4 (fun g hg => (hrow g hg).1) hlt
            obtain ⟨⟨sa, sn, sc⟩, hv4, _⟩ := owns_sl hO4
            have hv4 : v4 = .slice sa sn sc := hv4
            subst hv4
            have HO4 := hide hO4
            have cF4 : w4.cell? ⟨R, 16, none⟩ = some (.slice ta tn tc) := (unhide HP4).subs
            have fF4 : w4.frozen? ⟨R, 16, none⟩ = false := (unhide HP4).subs_f
            clear hO4 hg4 hrow cF2 cF3 HP2 HRS2 HBX2
            refine hK.out _ _ trivial (fun hHeld => ?_)
            clear hK K
            simp only [Act.put, List.setIfInBounds_toArray, List.set_cons_zero, List.set_cons_succ]
            refine wpAnyH_take (i := 9) (oi := opKList18) (v := ?v25) rfl (by kernel_rfl) (by kernel_rfl) (by kernel_rfl) (fun _ _ _ h => h) (Or.inl ⟨by rfl, ?hy25⟩) (by assumption) ?rest25
            case hy25 => (intro w hSw; (try dsimp only at hSw); go_simp; (try rw [if_pos (by omega)]); (try with_reducible rfl))
            simp only [Act.put, List.setIfInBounds_toArray, List.set_cons_zero, List.set_cons_succ]
            refine wpAnyH_take (i := 10) (oi := opKList19) (v := ?v26) rfl (by kernel_rfl) (by kernel_rfl) (by kernel_rfl) (fun _ _ _ h => h) (Or.inl ⟨by rfl, ?hy26⟩) (by assumption) ?rest26
            case hy26 => (intro w hSw; (try dsimp only at hSw); go_simp; (try rw [if_pos (by omega)]); (try with_reducible rfl))
            simp only [Act.put, List.setIfInBounds_toArray, List.set_cons_zero, List.set_cons_succ]
            refine wpAnyH_ready (rs := [11]) (by kernel_rfl) (by simp) ?_
            refine AllReadyH.cons (o := opKList20) rfl (fun K hK => ?_) AllReadyH.nil
            go_simp
            refine hK.out _ _ trivial (fun hHeld => ?_)
            clear hK K
            refine wpAnyH_done (by kernel_rfl) ?_ _
            refine NoPanic.normal ?_
            have HRS5 : Hid (RS w0 (w4.setCell ⟨R, 16, none⟩ (.slice sa sn sc)) R st2) := ((unhide HRS4).less (fun g => g = R) rfl (fun g hg => by rw [hXd]; exact .inl hg)).set 16 _ (by decide)
            have HP5 : Hid (Pk (w4.setCell ⟨R, 16, none⟩ (.slice sa sn sc)) R { p with subs := ⟨sa, sn, sc⟩ }) := (unhide HP4).set_subs ⟨sa, sn, sc⟩
            have HBX5 : Hid (BX R isAny w (w4.setCell ⟨R, 16, none⟩ (.slice sa sn sc))) := (unhide HBX4).set 16 _ trivial
            have HO5 : Hid ((w4.setCell ⟨R, 16, none⟩ (.slice sa sn sc)).ownsRow w.heap.size 75 5 (.slice sa sn sc) (k + 1) (scs (d ++ [x]))) := by
              show World.ownsRow _ _ _ _ _ _ _
              rw [show (scs (d ++ [x])) = (scs d) ++ x.cells from by rw [scs_app]]
              exact owns_bx (unhide HO4) ((BX.refl R isAny w4).set 16 _ trivial) hlt
            have HA5 : Hid (Acc sub? st (d ++ [x]) st2) := (unhide HAcc).step sub?_shr (unhide HST2) hl0
            have HB5 : Hid (∀ l', st2 = some l' → (k + 1) + l'.length ≤ 65536) := by
              intro l' hl'
              subst hl'
              have h2 := stp_len sub?_shr (unhide HST2)
              have h3 := (unhide HB) l rfl
              omega
            have hM : mlen R (w4.setCell ⟨R, 16, none⟩ (.slice sa sn sc)) < mlen R wr := by
              rw [mlen_some (unhide HRS)]
              cases st2 with
              | none => rw [mlen_none (unhide HRS5)]; omega
              | some l' =>
                rw [mlen_some (unhide HRS5)]
                have := stp_len sub?_shr (unhide HST2)
                omega
            have hk1 : k + 1 ≤ 65536 := by
              have h3 := (unhide HB) l rfl
              have := List.length_pos_iff.2 hl0
              omega
            have HD5 : Hid ((d ++ [x]).length = k + 1) := by show _ = _; rw [List.length_append, unhide HD]; rfl
            clear HRS4 HP4 HBX4 HO4 cF4 fF4
            go_wp2
            go_roundw
            case rel => exact ⟨d ++ [x], st2, ⟨sa, sn, sc⟩, k + 1, by go_num, hk1, HD5, HB5, HP5, HO5, HA5, HRS5, HBX5⟩
            case measure => exact hM
          · go_simp
            refine hK.out _ _ trivial (fun hHeld => ?_)
            clear hK K
            refine wpAnyH_ready (rs := [4]) (by kernel_rfl) (by simp) ?_
            refine AllReadyH.cons (o := opKList14) rfl (fun K hK => ?_) AllReadyH.nil
            go_simp
            refine hK.out _ _ trivial (fun hHeld => ?_)
            clear hK K
            refine wpAnyH_ready (rs := [8]) (by kernel_rfl) (by simp) ?_
            refine AllReadyH.cons (o := opKList17) rfl (fun K hK => ?_) AllReadyH.nil
            refine step_append_run (Z := fun v' w' => w'.ownsRow w.heap.size 75 5 v' (k + 1) ((scs d) ++ x.cells) ∧ (w2.alloc (.cells #[.string x.filter, .int .i64 x.qos, .bool x.nolocal, .bool x.aspub, .int .i64 x.handling] 75)).grownBy w' (Value.slice ta tn tc).ownBlock) rfl _ _ 27 rfl (.slice ta tn tc) (.slice (some ⟨w2.heap.size, 0, none⟩) 1 1) rfl rfl ?hr ?_
            case hr =>
              obtain ⟨v4, w4, h1, h2, h3, _⟩ := run_append_own (P := Tryz.prog) (w := (w2.alloc (.cells #[.string x.filter, .int .i64 x.qos, .bool x.nolocal, .bool x.aspub, .int .i64 x.handling] 75))) w.heap.size 27 27 75 i0 _ 5 40 Tryz.underlying27 hi hz0 hz1 hz2 rfl (by decide) (.slice ta tn tc) k _ ((unhide HO2).alloc _) ⟨w2.heap.size, 0, none⟩ 1 1 x.cells rfl (five_cell _ _ _ _ _ _ _) (five_one _) (by unfold maxLen; omega) (by omega) (by simp; omega)
              exact ⟨v4, w4, h1, h2, h3⟩
            rintro v4 w4 ⟨hO4, hg4⟩
            have hrow : ∀ g, (Value.slice ta tn tc).ownBlock = some g → w.heap.size ≤ g ∧ g < wr.heap.size := fun g hg => (unhide HOwn).lt g hg
            have hrR : (Value.slice ta tn tc).ownBlock ≠ some R := fun e => by have := (hrow R e).1; omega
            have HP4 : Hid (Pk w4 R { p with subs := ⟨ta, tn, tc⟩ }) := ((unhide HP2).below ((Below.refl _ _).alloc (Nat.le_refl _) _)).grown hg4 hrR
            have h0w : w0.heap.size ≤ w.heap.size := HW0.size
            have HRS4 : Hid (RSX w0 w4 R X st2) := ((unhide HRS2).below ((Below.refl _ _).alloc (Nat.le_refl _) _)).grown hg4 (fun g hg => by rw [hXd]; exact .inr hg.symm) hrR (fun g hg => Nat.le_trans h0w (hrow g hg).1)
            have HBX4 : Hid (BX R isAny w w4) := ((unhide HBX2).trans (BX.of_below ((Below.refl _ _).alloc (Nat.le_refl _) _) hR2)).grown hg4 (fun g hg => (hrow g hg).1) hlt
            obtain ⟨⟨sa, sn, sc⟩, hv4, _⟩ := owns_sl hO4
            have hv4 : v4 = .slice sa sn sc := hv4
            subst hv4
            have HO4 := hide hO4
            have cF4 : w4.cell? ⟨R, 16, none⟩ = some (.slice ta tn tc) := (unhide HP4).subs
            have fF4 : w4.frozen? ⟨R, 16, none⟩ = false := (unhide HP4).subs_f
            clear hO4 hg4 hrow cF2 cF3 HP2 HRS2 HBX2
            refine hK.out _ _ trivial (fun hHeld => ?_)
            clear hK K
            simp only [Act.put, List.setIfInBounds_toArray, List.set_cons_zero, List.set_cons_succ]
            refine wpAnyH_take (i := 9) (oi := opKList18) (v := ?v27) rfl (by kernel_rfl) (by kernel_rfl) (by kernel_rfl) (fun _ _ _ h => h) (Or.inl ⟨by rfl, ?hy27⟩) (by assumption) ?rest27
            case hy27 => (intro w hSw; (try dsimp only at hSw); go_simp; (try rw [if_pos (by omega)]); (try with_reducible rfl))
            simp only [Act.put, List.setIfInBounds_toArray, List.set_cons_zero, List.set_cons_succ]
            refine wpAnyH_take (i := 10) (oi := opKList19) (v := ?v28) rfl (by kernel_rfl) (by kernel_rfl) (by kernel_rfl) (fun _ _ _ h => h) (Or.inl ⟨by rfl, ?hy28⟩) (by assumption) ?rest28
            case hy28 => (intro w hSw; (try dsimp only at hSw); go_simp; (try rw [if_pos (by omega)]); (try with_reducible rfl))
            simp only [Act.put, List.setIfInBounds_toArray, List.set_cons_zero, List.set_cons_succ]
            refine wpAnyH_ready (rs := [11]) (by kernel_rfl) (by simp) ?_
            refine AllReadyH.cons (o := opKList20) rfl (fun K hK => ?_) AllReadyH.nil
            go_simp
            refine hK.out _ _ trivial (fun hHeld => ?_)
            clear hK K
            refine wpAnyH_done (by kernel_rfl) ?_ _
            refine NoPanic.normal ?_
            have HRS5 : Hid (RS w0 (w4.setCell ⟨R, 16, none⟩ (.slice sa sn sc)) R st2) := ((unhide HRS4).less (fun g => g = R) rfl (fun g hg => by rw [hXd]; exact .inl hg)).set 16 _ (by decide)
            have HP5 : Hid (Pk (w4.setCell ⟨R, 16, none⟩ (.slice sa sn sc)) R { p with subs := ⟨sa, sn, sc⟩ }) := (unhide HP4).set_subs ⟨sa, sn, sc⟩
            have HBX5 : Hid (BX R isAny w (w4.setCell ⟨R, 16, none⟩ (.slice sa sn sc))) := (unhide HBX4).set 16 _ trivial
            have HO5 : Hid ((w4.setCell ⟨R, 16, none⟩ (.slice sa sn sc)).ownsRow w.heap.size 75 5 (.slice sa sn sc) (k + 1) (scs (d ++ [x]))) := by
              show World.ownsRow _ _ _ _ _ _ _
              rw [show (scs (d ++ [x])) = (scs d) ++ x.cells from by rw [scs_app]]
              exact owns_bx (unhide HO4) ((BX.refl R isAny w4).set 16 _ trivial) hlt
            have HA5 : Hid (Acc sub? st (d ++ [x]) st2) := (unhide HAcc).step sub?_shr (unhide HST2) hl0
            have HB5 : Hid (∀ l', st2 = some l' → (k + 1) + l'.length ≤ 65536) := by
              intro l' hl'
              subst hl'
              have h2 := stp_len sub?_shr (unhide HST2)
              have h3 := (unhide HB) l rfl
              omega
            have hM : mlen R (w4.setCell ⟨R, 16, none⟩ (.slice sa sn sc)) < mlen R wr := by
              rw [mlen_some (unhide HRS)]
              cases st2 with
              | none => rw [mlen_none (unhide HRS5)]; omega
              | some l' =>
                rw [mlen_some (unhide HRS5)]
                have := stp_len sub?_shr (unhide HST2)
                omega
            have hk1 : k + 1 ≤ 65536 := by
              have h3 := (unhide HB) l rfl
              have := List.length_pos_iff.2 hl0
              omega
            have HD5 : Hid ((d ++ [x]).length = k + 1) := by show _ = _; rw [List.length_append, unhide HD]; rfl
            clear HRS4 HP4 HBX4 HO4 cF4 fF4
            go_wp2
            go_roundw
            case rel => exact ⟨d ++ [x], st2, ⟨sa, sn, sc⟩, k + 1, by go_num, hk1, HD5, HB5, HP5, HO5, HA5, HRS5, HBX5⟩
            case measure => exact hM
    · clear gl
      go_wp2_with fail
      refine (mayCount_any k _).mono ?_
      rintro e wa ⟨rfl, hwa⟩
      obtain rfl := hwa.symm
      clear hwa
      go_wp2_with fail
      refine (must_any R _ none w0 wr (unhide HRS)).mono ?_
      rintro e wb ⟨rfl, h2, hx2⟩
      have H2 := hide h2
      have HX2 := hide hx2
      clear h2 hx2
      go_wp2
      go_end0
      refine ⟨rfl, ⟨ta, tn, tc⟩, d, _, (unhide HPk).bx (unhide HX2), ?_, ?_, unhide H2, (unhide HBX).trans (unhide HX2).any⟩
      · show World.ownsRow _ _ _ _ _ _ _
        rw [unhide HD]
        exact owns_bx (unhide HOwn) (unhide HX2) hlt
      · refine ((unhide HAcc).done (.inl rfl)).bind ((?_ : Stp (mustR (mc d.length)) none () (if mc k then none else none)).bind (Stp.pure _ _))
        rw [unhide HD]
        exact Stp.must _ _
end Go.Proofs.YtoocdfgjkeheaaaGreatDoor.K
/- Proved here: a packet plainly (Pa), a packet in memory that means it (Mean), and what the reader reads (packet?). Helpers. -/
namespace Go.Proofs.YtoocdfgjkeheaaaGreatDoor.K
open Go.RowKit

/-- a will -/
structure Wl where
  topic : ByteArray
  payload : ByteArray
  qos : Int
  retain : Bool
  props : List Pr
/-- a packet -/
structure Pa where
  kind : Int
  dup : Bool
  qos : Int
  retain : Bool
  topic : ByteArray
  id : Int
  payload : ByteArray
  props : List Pr
  client : ByteArray
  clean : Bool
  keep : Int
  wills : List Wl
  user : List ByteArray
  pass : List ByteArray
  code : Int
  session : Bool
  subs : List Sb
  filters : List ByteArray
  codes : List Int
def pa0 (kind : Int) (dup : Bool) (qos : Int) (retain : Bool) : Pa := ⟨kind, dup, qos, retain, ⟨#[]⟩, 0, ⟨#[]⟩, [], ⟨#[]⟩, false, 0, [], [], [], 0, false, [], [], []⟩
abbrev sl0 : Sl := ⟨none, 0, 0⟩
def pk0 (kind : Int) (dup : Bool) (qos : Int) (retain : Bool) : Pkv := ⟨kind, dup, qos, retain, ⟨#[]⟩, 0, ⟨#[]⟩, sl0, ⟨#[]⟩, false, 0, sl0, sl0, sl0, 0, false, sl0, sl0, sl0⟩
/-- the wills ws in memory are those -/
def Ws (w : World) (B : Nat) (ws : List Wv) (us : List Wl) : Prop := ws.length = us.length ∧ ∀ (i : Nat) (a : Wv) (b : Wl), ws[i]? = some a → us[i]? = some b → a.topic = b.topic ∧ a.payload = b.payload ∧ a.qos = b.qos ∧ a.retain = b.retain ∧ w.ownsRow B 120 4 a.props.val b.props.length (pcs b.props)
/-- a packet whose lists lie in rows of its own, at B or behind -/
structure Mean (w : World) (B : Nat) (p : Pkv) (P : Pa) : Prop where
  sc : p.kind = P.kind ∧ p.dup = P.dup ∧ p.qos = P.qos ∧ p.retain = P.retain ∧ p.topic = P.topic ∧ p.id = P.id ∧ p.payload = P.payload ∧ p.client = P.client ∧ p.clean = P.clean ∧ p.keep = P.keep ∧ p.code = P.code ∧ p.session = P.session
  props : w.ownsRow B 120 4 p.props.val P.props.length (pcs P.props)
  wills : ∃ ws, w.ownsRow B 73 5 p.wills.val P.wills.length (wcs ws) ∧ Ws w B ws P.wills
  user : w.ownsRow B 9 1 p.user.val P.user.length (P.user.map Value.string)
  pass : w.ownsRow B 9 1 p.pass.val P.pass.length (P.pass.map Value.string)
  subs : w.ownsRow B 75 5 p.subs.val P.subs.length (scs P.subs)
  filters : w.ownsRow B 9 1 p.filters.val P.filters.length (P.filters.map Value.string)
  codes : w.ownsRow B 3 1 p.codes.val P.codes.length (P.codes.map (Value.int .i64))
theorem row0 (w : World) (B : Nat) (e : TypeId) (s : Nat) : w.ownsRow B e s sl0.val 0 [] := World.ownsRow_nil _ _ _ _
theorem wills0 (w : World) (B : Nat) : ∃ ws, w.ownsRow B 73 5 sl0.val 0 (wcs ws) ∧ Ws w B ws [] := ⟨[], World.ownsRow_nil _ _ _ _, rfl, fun i a b h => by simp at h⟩
theorem row_str {w : World} {B R U : Nat} {b : Bool} {us : Option ByteArray} (h : StrAt B R w b U us) : w.ownsRow B 9 1 (isW U b).val us.toList.length (us.toList.map Value.string) := by
  cases b
  · rw [h.1 rfl]
    exact row0 _ _ _ _
  · obtain ⟨t, rfl, h2, h3, h4, h5⟩ := h.2 rfl
    exact ⟨rfl, .inr ⟨U, 1, _, rfl, h2, h5, Nat.le_refl _, by unfold maxLen; simp, rfl, rfl⟩⟩
def wlOf (x : Int) (wl : Option (List Pr × ByteArray × ByteArray)) : List Wl := match wl with
  | none => []
  | some (q, t, y) => [⟨t, y, x / 8 % 4, btest x 32, q⟩]
theorem row_will {w : World} {B N R V : Nat} {x : Int} {wl : Option (List Pr × ByteArray × ByteArray)} (h : WillAt B N R w x V wl) (hN : B ≤ N) : ∃ ws, w.ownsRow B 73 5 (isW V (btest x 4)).val (wlOf x wl).length (wcs ws) ∧ Ws w B ws (wlOf x wl) := by
  cases hb : btest x 4
  · rw [h.1 hb]
    exact wills0 _ _
  · obtain ⟨q, t, y, tq, rfl, h2, h3, h4, h5, h6⟩ := h.2 hb
    refine ⟨[⟨t, y, x / 8 % 4, btest x 32, tq⟩], ⟨rfl, .inr ⟨V, 1, _, rfl, h2, h5, Nat.le_refl _, by unfold maxLen; simp, rfl, rfl⟩⟩, rfl, fun i a b ha hb => ?_⟩
    match i, ha, hb with
    | 0, ha, hb =>
      simp [wlOf] at ha hb
      subst ha hb
      exact ⟨rfl, rfl, rfl, rfl, owns_mono h6 hN⟩
    | i + 1, ha, _ => simp at ha
/-- nothing is left -/
def endR (l : List Int) : Option (Unit × List Int) := if l.length = 0 then some ((), l) else none
def ofCn (P : Pa) (n : Cn) : Pa := { P with clean := btest n.x 2, keep := n.keep, props := n.props, client := n.client, wills := wlOf n.x n.will, user := n.user.toList, pass := n.pass.toList }
def body? (P : Pa) : List Int → Option (Pa × List Int) :=
  if P.kind = 1 then bindR connect? fun n => pureR (ofCn P n)
  else if P.kind = 2 then bindR one? fun f => bindR (mustR (decide (f ≤ 1))) fun _ => bindR one? fun c => bindR (props? 2) fun x => pureR { P with session := f == 1, code := c, props := x }
  else if P.kind = 3 then bindR (publish? P.qos) fun r => pureR { P with topic := r.1, id := r.2.1, props := r.2.2.1, payload := r.2.2.2 }
  else if P.kind = 8 then bindR id? fun i => bindR (props? P.kind) fun x => bindR (list? sub?) fun d => pureR { P with id := i, props := x, subs := d }
  else if P.kind = 10 then bindR id? fun i => bindR (props? P.kind) fun x => bindR (list? text?) fun d => pureR { P with id := i, props := x, filters := d }
  else if P.kind = 9 ∨ P.kind = 11 then bindR id? fun i => bindR (props? P.kind) fun x => bindR (list? one?) fun d => pureR { P with id := i, props := x, codes := d }
  else if P.kind = 4 ∨ P.kind = 5 ∨ P.kind = 6 ∨ P.kind = 7 then bindR id? fun i => bindR (reason? P.kind) fun r => pureR { P with id := i, code := r.1, props := r.2 }
  else if P.kind = 14 ∨ P.kind = 15 then bindR (reason? P.kind) fun r => pureR { P with code := r.1, props := r.2 }
  else pureR P
def packet? (P : Pa) : List Int → Option (Pa × List Int) := bindR (body? P) fun P' => bindR endR fun _ => pureR P'
theorem stp_end {st : Option (List Int)} {n : Nat} (h : ∀ l, st = some l → l.length = n) (b : Bool) (hb : b = decide (n = 0)) : Stp endR st () (if b then st else none) := by
  cases st with
  | none => cases b <;> rfl
  | some l =>
    have := h l rfl
    subst hb
    unfold Stp endR
    by_cases hn : n = 0
    · simp [hn, this]
    · simp [hn, this]
end Go.Proofs.YtoocdfgjkeheaaaGreatDoor.K
/- Proved here: packet.begin tells the packet of a first byte. Helper contracts. -/
namespace Go.Proofs.YtoocdfgjkeheaaaGreatDoor.K
open Go.RowKit
set_option maxRecDepth 100000

theorem sh16 (x : Int) (h0 : 0 ≤ x) (h1 : x ≤ 255) : x >>> 4 = x / 16 := byte_cases (P := fun x => x >>> 4 = x / 16) (by decide +kernel) x h0 h1
theorem and15 (x : Int) (h0 : 0 ≤ x) (h1 : x ≤ 255) : bits .and .i64 x 15 = x % 16 := byte_cases (P := fun x => bits .and .i64 x 15 = x % 16) (by decide +kernel) x h0 h1
theorem and8' (x : Int) (h0 : 0 ≤ x) (h1 : x ≤ 255) : (bits .and .i64 (x % 16) 8 != 0) = btest x 8 := byte_cases (P := fun x => (bits .and .i64 (x % 16) 8 != 0) = btest x 8) (by decide +kernel) x h0 h1
theorem and1' (x : Int) (h0 : 0 ≤ x) (h1 : x ≤ 255) : (bits .and .i64 (x % 16) 1 != 0) = btest x 1 := byte_cases (P := fun x => (bits .and .i64 (x % 16) 1 != 0) = btest x 1) (by decide +kernel) x h0 h1
theorem shq' (x : Int) (h0 : 0 ≤ x) (h1 : x ≤ 255) : bits .and .i64 (x % 16 / 2) 3 = x / 2 % 4 := byte_cases (P := fun x => bits .and .i64 (x % 16 / 2) 3 = x / 2 % 4) (by decide +kernel) x h0 h1
/-- the packet of a first byte -/
def bpk (b : Int) : Pkv := if b / 16 = 3 then pk0 3 (btest b 8) (b / 2 % 4) (btest b 1) else pk0 (b / 16) false 0 false
def bpa (b : Int) : Pa := if b / 16 = 3 then pa0 3 (btest b 8) (b / 2 % 4) (btest b 1) else pa0 (b / 16) false 0 false
/-- its flags, and whether it may be -/
def bfl (b : Int) : Int := if b / 16 = 3 then pfl (btest b 8) (b / 2 % 4) (btest b 1) else if b / 16 = 6 ∨ b / 16 = 8 ∨ b / 16 = 10 then 2 else 0
def bmay (b : Int) : Bool := if b / 16 = 3 then pok (btest b 8) (b / 2 % 4) else if b / 16 = 6 ∨ b / 16 = 8 ∨ b / 16 = 10 then true else decide (1 ≤ b / 16) && decide (b / 16 ≤ 15)
def bok (b : Int) : Bool := bmay b && (bfl b == b % 16)
theorem flagsOf_b (b : Int) (w : World) : Calls Tryz.prog 54 #[(bpk b).val] w fun e w' => e = .returned (.tuple #[.int .i64 (bfl b), .bool (bmay b)]) ∧ Below w.heap.size w w' := by
  unfold bfl bmay bpk
  by_cases h3 : b / 16 = 3
  · simp only [if_pos h3]
    exact flagsOf_pub _ w rfl
  · simp only [if_neg h3]
    by_cases h6 : b / 16 = 6 ∨ b / 16 = 8 ∨ b / 16 = 10
    · simp only [if_pos h6]
      exact flagsOf_fixed _ w h6
    · simp only [if_neg h6]
      exact flagsOf_other _ w h3 (fun e => h6 (.inl e)) (fun e => h6 (.inr (.inl e))) (fun e => h6 (.inr (.inr e)))
set_option maxHeartbeats 4000000 in
theorem begin_any (b : Int) (h0 : 0 ≤ b) (h1 : b ≤ 255) (w : World) : Calls Tryz.prog 69 #[.int .i64 b] w fun e w' => e = .returned (.tuple #[(bpk b).val, .bool (bok b)]) ∧ Below w.heap.size w w' := by
  have k1 := sh16 b h0 h1
  have k2 := and15 b h0 h1
  have k3 := and8' b h0 h1
  have k4 := and1' b h0 h1
  have k5 := shq' b h0 h1
  by_cases h3 : b / 16 = 3
  · have e1 : bpk b = pk0 3 (btest b 8) (b / 2 % 4) (btest b 1) := if_pos h3
    have HE := hide e1
    clear e1
    have HPN := hide (pk_new w (pk0 3 (btest b 8) (b / 2 % 4) (btest b 1)))
    have hbN : Hid (Below w.heap.size w (w.alloc (.cells (pk0 3 (btest b 8) (b / 2 % 4) (btest b 1)).cells.toArray 30))) := (Below.refl _ _).alloc (Nat.le_refl _) _
    have HFL : Hid (∀ W : World, Calls Tryz.prog 54 #[.agg (pk0 3 (btest b 8) (b / 2 % 4) (btest b 1)).cells.toArray] W fun e w' => e = .returned (.tuple #[.int .i64 (bfl b), .bool (bmay b)]) ∧ Below W.heap.size W w') := fun W => by
      have k := flagsOf_b b W
      rw [unhide HE] at k
      exact k
    have HR : Hid (∀ mb fl, bmay b = mb → bfl b = fl → bok b = (mb && (fl == b % 16))) := fun mb fl e1 e2 => by rw [← e1, ← e2]; rfl
    generalize hfl : bfl b = fl at HFL
    generalize hmb : bmay b = mb at HFL
    have HOK := hide ((unhide HR) mb fl hmb hfl)
    clear hfl hmb HR
    go_enter Tryz.func69, Tryz.ntmps69
    go_upto_region 6 with fail
    go_step
    refine wpList_load_mid rfl 30 _ rfl w.heap.size 0 rfl (pk0 3 (btest b 8) (b / 2 % 4) (btest b 1)).cells _ (unhide HPN).range Tryz.underlying30 rfl packet_size ?_
    simp only [Act.put, List.setIfInBounds_toArray, List.set_cons_zero, List.set_cons_succ]
    go_wp2_with fail
    refine ((unhide HFL) _).mono ?_
    rintro e w1 ⟨rfl, hb1⟩
    have HP1 := hide ((unhide HPN).below hb1)
    have HB1 : Hid (Below w.heap.size w w1) := (unhide hbN).trans (hb1.mono (unhide hbN).size)
    clear hb1 hbN HPN HFL
    cases mb
    · go_upto_region 7 with fail
      go_step
      refine wpList_load_mid rfl 30 _ rfl w.heap.size 0 rfl (pk0 3 (btest b 8) (b / 2 % 4) (btest b 1)).cells _ (unhide HP1).range Tryz.underlying30 rfl packet_size ?_
      simp only [Act.put, List.setIfInBounds_toArray, List.set_cons_zero, List.set_cons_succ]
      ((iterate 6 go_step); go_skip; (iterate 3 go_step))
      refine wpList_store_mid rfl 30 _ _ rfl w.heap.size 0 (pk0 3 (btest b 8) (b / 2 % 4) (btest b 1)).cells.toArray rfl rfl ((unhide HP1).there _) packet_size (Pkv.ones' _) ?_
      simp only [Act.put]
      have HPS := hide ((unhide HP1).stored (pk0 3 (btest b 8) (b / 2 % 4) (btest b 1)))
      have HBS : Hid (Below w.heap.size w (w1.setCells w.heap.size 0 (pk0 3 (btest b 8) (b / 2 % 4) (btest b 1)).cells)) := setCells_below (unhide HB1) (Nat.le_refl _)
      generalize w1.setCells w.heap.size 0 (pk0 3 (btest b 8) (b / 2 % 4) (btest b 1)).cells = w2 at HPS HBS ⊢
      go_wp2
      refine bodyPost_ret (res_pk2 (B := w.heap.size) (q := (pk0 3 (btest b 8) (b / 2 % 4) (btest b 1))) rfl rfl (unhide HPS)) rfl ?_
      exact ⟨by rw [unhide HOK, unhide HE]; rfl, unhide HBS⟩
    · go_upto_region 7 with fail
      go_step
      refine wpList_load_mid rfl 30 _ rfl w.heap.size 0 rfl (pk0 3 (btest b 8) (b / 2 % 4) (btest b 1)).cells _ (unhide HP1).range Tryz.underlying30 rfl packet_size ?_
      simp only [Act.put, List.setIfInBounds_toArray, List.set_cons_zero, List.set_cons_succ]
      iterate 15 go_step
      refine wpList_store_mid rfl 30 _ _ rfl w.heap.size 0 (pk0 3 (btest b 8) (b / 2 % 4) (btest b 1)).cells.toArray rfl rfl ((unhide HP1).there _) packet_size (Pkv.ones' _) ?_
      simp only [Act.put]
      have HPS := hide ((unhide HP1).stored (pk0 3 (btest b 8) (b / 2 % 4) (btest b 1)))
      have HBS : Hid (Below w.heap.size w (w1.setCells w.heap.size 0 (pk0 3 (btest b 8) (b / 2 % 4) (btest b 1)).cells)) := setCells_below (unhide HB1) (Nat.le_refl _)
      generalize w1.setCells w.heap.size 0 (pk0 3 (btest b 8) (b / 2 % 4) (btest b 1)).cells = w2 at HPS HBS ⊢
      go_wp2
      refine bodyPost_ret (res_pk2 (B := w.heap.size) (q := (pk0 3 (btest b 8) (b / 2 % 4) (btest b 1))) rfl rfl (unhide HPS)) rfl ?_
      exact ⟨by rw [unhide HOK, unhide HE]; rfl, unhide HBS⟩
  · have e1 : bpk b = pk0 (b / 16) false 0 false := if_neg h3
    have HE := hide e1
    clear e1
    have HPN := hide (pk_new w (pk0 (b / 16) false 0 false))
    have hbN : Hid (Below w.heap.size w (w.alloc (.cells (pk0 (b / 16) false 0 false).cells.toArray 30))) := (Below.refl _ _).alloc (Nat.le_refl _) _
    have HFL : Hid (∀ W : World, Calls Tryz.prog 54 #[.agg (pk0 (b / 16) false 0 false).cells.toArray] W fun e w' => e = .returned (.tuple #[.int .i64 (bfl b), .bool (bmay b)]) ∧ Below W.heap.size W w') := fun W => by
      have k := flagsOf_b b W
      rw [unhide HE] at k
      exact k
    have HR : Hid (∀ mb fl, bmay b = mb → bfl b = fl → bok b = (mb && (fl == b % 16))) := fun mb fl e1 e2 => by rw [← e1, ← e2]; rfl
    generalize hfl : bfl b = fl at HFL
    generalize hmb : bmay b = mb at HFL
    have HOK := hide ((unhide HR) mb fl hmb hfl)
    clear hfl hmb HR
    go_enter Tryz.func69, Tryz.ntmps69
    go_upto_region 6 with fail
    go_step
    refine wpList_load_mid rfl 30 _ rfl w.heap.size 0 rfl (pk0 (b / 16) false 0 false).cells _ (unhide HPN).range Tryz.underlying30 rfl packet_size ?_
    simp only [Act.put, List.setIfInBounds_toArray, List.set_cons_zero, List.set_cons_succ]
    go_wp2_with fail
    refine ((unhide HFL) _).mono ?_
    rintro e w1 ⟨rfl, hb1⟩
    have HP1 := hide ((unhide HPN).below hb1)
    have HB1 : Hid (Below w.heap.size w w1) := (unhide hbN).trans (hb1.mono (unhide hbN).size)
    clear hb1 hbN HPN HFL
    cases mb
    · go_upto_region 7 with fail
      go_step
      refine wpList_load_mid rfl 30 _ rfl w.heap.size 0 rfl (pk0 (b / 16) false 0 false).cells _ (unhide HP1).range Tryz.underlying30 rfl packet_size ?_
      simp only [Act.put, List.setIfInBounds_toArray, List.set_cons_zero, List.set_cons_succ]
      ((iterate 6 go_step); go_skip; (iterate 3 go_step))
      refine wpList_store_mid rfl 30 _ _ rfl w.heap.size 0 (pk0 (b / 16) false 0 false).cells.toArray rfl rfl ((unhide HP1).there _) packet_size (Pkv.ones' _) ?_
      simp only [Act.put]
      have HPS := hide ((unhide HP1).stored (pk0 (b / 16) false 0 false))
      have HBS : Hid (Below w.heap.size w (w1.setCells w.heap.size 0 (pk0 (b / 16) false 0 false).cells)) := setCells_below (unhide HB1) (Nat.le_refl _)
      generalize w1.setCells w.heap.size 0 (pk0 (b / 16) false 0 false).cells = w2 at HPS HBS ⊢
      go_wp2
      refine bodyPost_ret (res_pk2 (B := w.heap.size) (q := (pk0 (b / 16) false 0 false)) rfl rfl (unhide HPS)) rfl ?_
      exact ⟨by rw [unhide HOK, unhide HE]; rfl, unhide HBS⟩
    · go_upto_region 7 with fail
      go_step
      refine wpList_load_mid rfl 30 _ rfl w.heap.size 0 rfl (pk0 (b / 16) false 0 false).cells _ (unhide HP1).range Tryz.underlying30 rfl packet_size ?_
      simp only [Act.put, List.setIfInBounds_toArray, List.set_cons_zero, List.set_cons_succ]
      iterate 15 go_step
      refine wpList_store_mid rfl 30 _ _ rfl w.heap.size 0 (pk0 (b / 16) false 0 false).cells.toArray rfl rfl ((unhide HP1).there _) packet_size (Pkv.ones' _) ?_
      simp only [Act.put]
      have HPS := hide ((unhide HP1).stored (pk0 (b / 16) false 0 false))
      have HBS : Hid (Below w.heap.size w (w1.setCells w.heap.size 0 (pk0 (b / 16) false 0 false).cells)) := setCells_below (unhide HB1) (Nat.le_refl _)
      generalize w1.setCells w.heap.size 0 (pk0 (b / 16) false 0 false).cells = w2 at HPS HBS ⊢
      go_wp2
      refine bodyPost_ret (res_pk2 (B := w.heap.size) (q := (pk0 (b / 16) false 0 false)) rfl rfl (unhide HPS)) rfl ?_
      exact ⟨by rw [unhide HOK, unhide HE]; rfl, unhide HBS⟩
end Go.Proofs.YtoocdfgjkeheaaaGreatDoor.K
/- Proved here: errors.As finds the api.Errno within 0 *api.Faults. Helper contracts. -/
namespace Go.Proofs.YtoocdfgjkeheaaaGreatDoor
open Go.RowKit Go.Extern.Stop Go.Stop Go.Extern

set_option maxHeartbeats 4000000 in
theorem er_as0 (n : Int) (t : Addr) (old : Value) (w : World) (hg : Laid w)  (ht0 : w.cell? t = some old) (hf0 : w.frozen? t = false) :
    Calls Tryz.prog 114 #[.iface 84 (.int .i64 n), .iface 141 (.pointer (some t))] w fun ev w' => ev = .returned (.bool true) ∧ w' = ((((w.alloc (.cells #[.pointer (some t)] 141)).alloc (.cells #[.pointer (some ⟨1, 141, none⟩), .pointer (some ⟨w.heap.size, 0, none⟩), .int .u64 150] 178)).alloc (.cells #[.pointer (some ⟨1, 141, none⟩), .pointer (some ⟨w.heap.size, 0, none⟩), .int .u64 150] 178)).alloc (.cells #[.int .i64 n] 84)).setCell t (.int .i64 n) := by
  unfold Laid at hg
  have h6 := @run_callFunc_extern Tryz.prog 156 _ (fun args => ReflectliteValue.unpack (args.getD 0 (.tuple #[]))) Tryz.func156 (by kernel_rfl) (by kernel_rfl) (by kernel_rfl) (by kernel_rfl)
  have h7 := @run_callFunc_extern Tryz.prog 157 _ (ReflectliteValue.methodAny (ReflectliteValue.valueError "reflectlite.Value.Type" 0) (fun t _ _ _ => ReflectliteType.toType t)) Tryz.func157 (by kernel_rfl) (by kernel_rfl) (by kernel_rfl) (by kernel_rfl)
  have h8 := @run_callFunc_extern Tryz.prog 158 _ (ReflectliteValue.method (ReflectliteValue.valueError "reflectlite.Value.IsNil" 0) ReflectliteValue.isNil) Tryz.func158 (by kernel_rfl) (by kernel_rfl) (by kernel_rfl) (by kernel_rfl)
  have h27 := @run_callFunc_extern Tryz.prog 237 _ (ReflectliteType.abiMethod fun t => do pure (.int .u8 (← Rtype.kind t))) Tryz.func237 (by kernel_rfl) (by kernel_rfl) (by kernel_rfl) (by kernel_rfl)
  have h37 := @run_callFunc_extern Tryz.prog 249 _ (ReflectliteType.method ReflectliteType.elem) Tryz.func249 (by kernel_rfl) (by kernel_rfl) (by kernel_rfl) (by kernel_rfl)
  have h38 := @run_callFunc_extern Tryz.prog 250 _ (ReflectliteType.relation "Implements" ReflectliteType.implements_) Tryz.func250 (by kernel_rfl) (by kernel_rfl) (by kernel_rfl) (by kernel_rfl)
  have h10 := @run_callFunc_extern Tryz.prog 135 _ ReflectliteType.typeOf Tryz.func135 (by kernel_rfl) (by kernel_rfl) (by kernel_rfl) (by kernel_rfl)
  have h35 := @run_callFunc_extern Tryz.prog 247 _ (ReflectliteType.relation "AssignableTo" ReflectliteType.assignableTo) Tryz.func247 (by kernel_rfl) (by kernel_rfl) (by kernel_rfl) (by kernel_rfl)
  have h11 := @run_callFunc_extern Tryz.prog 189 _ (ReflectliteValue.method (ReflectliteValue.valueError "reflectlite.Value.Elem" 0) ReflectliteValue.elem) Tryz.func189 (by kernel_rfl) (by kernel_rfl) (by kernel_rfl) (by kernel_rfl)
  have h12 := @run_callFunc_extern Tryz.prog 190 _ ReflectliteValue.set Tryz.func190 (by kernel_rfl) (by kernel_rfl) (by kernel_rfl) (by kernel_rfl)
  have tO := typeOfE
  have tF := typeOfF
  have mA := methodAssignableTo
  have mU := methodUnwrap
  have a25 := assignableE
  have aF := assignableF
  have v25 := valueOfE
  have f6 := valueOfP
  have f7 := typeP
  have mK := methodKind
  have mE := methodElem
  have mI := methodImplements
  have k27 := kindP
  have k25 := kindE
  have e27 := elemP
  have i25 := implementsE
  have nA := noAsF
  have hU := hasUnwrapF
  have n8 := isNilP ⟨w.heap.size, 0, none⟩ t ((w.alloc (.cells #[.pointer (some t)] 141)).alloc (.cells #[.pointer (some ⟨1, 141, none⟩), .pointer (some ⟨w.heap.size, 0, none⟩), .int .u64 150] 178)) (by simp)
  have hlt : 0 < w.heap.size := by
    rcases Nat.eq_zero_or_pos w.heap.size with h0 | h
    · simp [World.cell?, h0] at hg
    · exact h
  have hg2 : ((w.alloc (.cells #[.pointer (some t)] 141)).alloc (.cells #[.pointer (some ⟨1, 141, none⟩), .pointer (some ⟨w.heap.size, 0, none⟩), .int .u64 150] 178)).cell? ⟨0, 0, none⟩ = some (.iface 199 (.agg #[.pointer (some ⟨1, 37, none⟩)])) := by
    rw [World.cell?_alloc_lt _ _ ⟨0, 0, none⟩ (by simp), World.cell?_alloc_lt _ _ ⟨0, 0, none⟩ hlt]; exact hg
  have htl : t.block < w.heap.size := by
    rcases Nat.lt_or_ge t.block w.heap.size with h | h
    · exact h
    · simp [World.cell?, Array.getElem?_eq_none h] at ht0
  have el := elemVP ⟨w.heap.size, 0, none⟩ t (((w.alloc (.cells #[.pointer (some t)] 141)).alloc (.cells #[.pointer (some ⟨1, 141, none⟩), .pointer (some ⟨w.heap.size, 0, none⟩), .int .u64 150] 178)).alloc (.cells #[.pointer (some ⟨1, 141, none⟩), .pointer (some ⟨w.heap.size, 0, none⟩), .int .u64 150] 178)) (by rw [World.cell?_alloc_lt _ _ ⟨w.heap.size, 0, none⟩ (by simp; omega)]; simp)
  have st := setE t ⟨w.heap.size + 1 + 1 + 1, 0, none⟩ n old ((((w.alloc (.cells #[.pointer (some t)] 141)).alloc (.cells #[.pointer (some ⟨1, 141, none⟩), .pointer (some ⟨w.heap.size, 0, none⟩), .int .u64 150] 178)).alloc (.cells #[.pointer (some ⟨1, 141, none⟩), .pointer (some ⟨w.heap.size, 0, none⟩), .int .u64 150] 178)).alloc (.cells #[.int .i64 n] 84))
    (by rw [World.cell?_alloc_at _ _ _ _ (by simp)]; rfl)
    (by rw [World.cell?_alloc_lt _ _ t (by simp; omega), World.cell?_alloc_lt _ _ t (by simp; omega), World.cell?_alloc_lt _ _ t (by simp; omega), World.cell?_alloc_lt _ _ t htl]; exact ht0)
    (by rw [World.frozen?_alloc_old _ _ t (by simp; omega), World.frozen?_alloc_old _ _ t (by simp; omega), World.frozen?_alloc_old _ _ t (by simp; omega), World.frozen?_alloc_old _ _ t (Nat.ne_of_lt htl)]; exact hf0)
  clear hg  ht0 hf0 htl hlt
  go_enter Tryz.func114, Tryz.ntmps114
  go_wp2
  refine wp_loop_rounds 1 ?_
  rw [rounds_succ]
  go_wp2
  go_ret
  exact ⟨rfl, rfl⟩
end Go.Proofs.YtoocdfgjkeheaaaGreatDoor
/- Proved here: errors.As finds the api.Errno within 1 *api.Faults. Helper contracts. -/
namespace Go.Proofs.YtoocdfgjkeheaaaGreatDoor
open Go.RowKit Go.Extern.Stop Go.Stop Go.Extern

set_option maxHeartbeats 4000000 in
theorem er_as1 (b0 : Nat) (n : Int) (t : Addr) (old : Value) (w : World) (hg : Laid w) (h0 : w.cell? ⟨b0, 1, none⟩ = some (.iface 84 (.int .i64 n))) (ht0 : w.cell? t = some old) (hf0 : w.frozen? t = false) :
    Calls Tryz.prog 114 #[.iface 149 (.pointer (some ⟨b0, 0, none⟩)), .iface 141 (.pointer (some t))] w fun ev w' => ev = .returned (.bool true) ∧ w' = ((((w.alloc (.cells #[.pointer (some t)] 141)).alloc (.cells #[.pointer (some ⟨1, 141, none⟩), .pointer (some ⟨w.heap.size, 0, none⟩), .int .u64 150] 178)).alloc (.cells #[.pointer (some ⟨1, 141, none⟩), .pointer (some ⟨w.heap.size, 0, none⟩), .int .u64 150] 178)).alloc (.cells #[.int .i64 n] 84)).setCell t (.int .i64 n) := by
  unfold Laid at hg
  have h6 := @run_callFunc_extern Tryz.prog 156 _ (fun args => ReflectliteValue.unpack (args.getD 0 (.tuple #[]))) Tryz.func156 (by kernel_rfl) (by kernel_rfl) (by kernel_rfl) (by kernel_rfl)
  have h7 := @run_callFunc_extern Tryz.prog 157 _ (ReflectliteValue.methodAny (ReflectliteValue.valueError "reflectlite.Value.Type" 0) (fun t _ _ _ => ReflectliteType.toType t)) Tryz.func157 (by kernel_rfl) (by kernel_rfl) (by kernel_rfl) (by kernel_rfl)
  have h8 := @run_callFunc_extern Tryz.prog 158 _ (ReflectliteValue.method (ReflectliteValue.valueError "reflectlite.Value.IsNil" 0) ReflectliteValue.isNil) Tryz.func158 (by kernel_rfl) (by kernel_rfl) (by kernel_rfl) (by kernel_rfl)
  have h27 := @run_callFunc_extern Tryz.prog 237 _ (ReflectliteType.abiMethod fun t => do pure (.int .u8 (← Rtype.kind t))) Tryz.func237 (by kernel_rfl) (by kernel_rfl) (by kernel_rfl) (by kernel_rfl)
  have h37 := @run_callFunc_extern Tryz.prog 249 _ (ReflectliteType.method ReflectliteType.elem) Tryz.func249 (by kernel_rfl) (by kernel_rfl) (by kernel_rfl) (by kernel_rfl)
  have h38 := @run_callFunc_extern Tryz.prog 250 _ (ReflectliteType.relation "Implements" ReflectliteType.implements_) Tryz.func250 (by kernel_rfl) (by kernel_rfl) (by kernel_rfl) (by kernel_rfl)
  have h10 := @run_callFunc_extern Tryz.prog 135 _ ReflectliteType.typeOf Tryz.func135 (by kernel_rfl) (by kernel_rfl) (by kernel_rfl) (by kernel_rfl)
  have h35 := @run_callFunc_extern Tryz.prog 247 _ (ReflectliteType.relation "AssignableTo" ReflectliteType.assignableTo) Tryz.func247 (by kernel_rfl) (by kernel_rfl) (by kernel_rfl) (by kernel_rfl)
  have h11 := @run_callFunc_extern Tryz.prog 189 _ (ReflectliteValue.method (ReflectliteValue.valueError "reflectlite.Value.Elem" 0) ReflectliteValue.elem) Tryz.func189 (by kernel_rfl) (by kernel_rfl) (by kernel_rfl) (by kernel_rfl)
  have h12 := @run_callFunc_extern Tryz.prog 190 _ ReflectliteValue.set Tryz.func190 (by kernel_rfl) (by kernel_rfl) (by kernel_rfl) (by kernel_rfl)
  have tO := typeOfE
  have tF := typeOfF
  have mA := methodAssignableTo
  have mU := methodUnwrap
  have a25 := assignableE
  have aF := assignableF
  have v25 := valueOfE
  have f6 := valueOfP
  have f7 := typeP
  have mK := methodKind
  have mE := methodElem
  have mI := methodImplements
  have k27 := kindP
  have k25 := kindE
  have e27 := elemP
  have i25 := implementsE
  have nA := noAsF
  have hU := hasUnwrapF
  have n8 := isNilP ⟨w.heap.size, 0, none⟩ t ((w.alloc (.cells #[.pointer (some t)] 141)).alloc (.cells #[.pointer (some ⟨1, 141, none⟩), .pointer (some ⟨w.heap.size, 0, none⟩), .int .u64 150] 178)) (by simp)
  have hlt : 0 < w.heap.size := by
    rcases Nat.eq_zero_or_pos w.heap.size with h0 | h
    · simp [World.cell?, h0] at hg
    · exact h
  have hg2 : ((w.alloc (.cells #[.pointer (some t)] 141)).alloc (.cells #[.pointer (some ⟨1, 141, none⟩), .pointer (some ⟨w.heap.size, 0, none⟩), .int .u64 150] 178)).cell? ⟨0, 0, none⟩ = some (.iface 199 (.agg #[.pointer (some ⟨1, 37, none⟩)])) := by
    rw [World.cell?_alloc_lt _ _ ⟨0, 0, none⟩ (by simp), World.cell?_alloc_lt _ _ ⟨0, 0, none⟩ hlt]; exact hg
  have htl : t.block < w.heap.size := by
    rcases Nat.lt_or_ge t.block w.heap.size with h | h
    · exact h
    · simp [World.cell?, Array.getElem?_eq_none h] at ht0
  have l0 : b0 < w.heap.size := by
    rcases Nat.lt_or_ge b0 w.heap.size with h | h
    · exact h
    · simp [World.cell?, Array.getElem?_eq_none h] at h0
  have g0 : (((w.alloc (.cells #[.pointer (some t)] 141)).alloc (.cells #[.pointer (some ⟨1, 141, none⟩), .pointer (some ⟨w.heap.size, 0, none⟩), .int .u64 150] 178)).alloc (.cells #[.pointer (some ⟨1, 141, none⟩), .pointer (some ⟨w.heap.size, 0, none⟩), .int .u64 150] 178)).cell? ⟨b0, 1, none⟩ = some (.iface 84 (.int .i64 n)) := by
    rw [World.cell?_alloc_lt _ _ ⟨b0, 1, none⟩ (by simp; omega), World.cell?_alloc_lt _ _ ⟨b0, 1, none⟩ (by simp; omega), World.cell?_alloc_lt _ _ ⟨b0, 1, none⟩ l0]; exact h0
  have el := elemVP ⟨w.heap.size, 0, none⟩ t (((w.alloc (.cells #[.pointer (some t)] 141)).alloc (.cells #[.pointer (some ⟨1, 141, none⟩), .pointer (some ⟨w.heap.size, 0, none⟩), .int .u64 150] 178)).alloc (.cells #[.pointer (some ⟨1, 141, none⟩), .pointer (some ⟨w.heap.size, 0, none⟩), .int .u64 150] 178)) (by rw [World.cell?_alloc_lt _ _ ⟨w.heap.size, 0, none⟩ (by simp; omega)]; simp)
  have st := setE t ⟨w.heap.size + 1 + 1 + 1, 0, none⟩ n old ((((w.alloc (.cells #[.pointer (some t)] 141)).alloc (.cells #[.pointer (some ⟨1, 141, none⟩), .pointer (some ⟨w.heap.size, 0, none⟩), .int .u64 150] 178)).alloc (.cells #[.pointer (some ⟨1, 141, none⟩), .pointer (some ⟨w.heap.size, 0, none⟩), .int .u64 150] 178)).alloc (.cells #[.int .i64 n] 84))
    (by rw [World.cell?_alloc_at _ _ _ _ (by simp)]; rfl)
    (by rw [World.cell?_alloc_lt _ _ t (by simp; omega), World.cell?_alloc_lt _ _ t (by simp; omega), World.cell?_alloc_lt _ _ t (by simp; omega), World.cell?_alloc_lt _ _ t htl]; exact ht0)
    (by rw [World.frozen?_alloc_old _ _ t (by simp; omega), World.frozen?_alloc_old _ _ t (by simp; omega), World.frozen?_alloc_old _ _ t (by simp; omega), World.frozen?_alloc_old _ _ t (Nat.ne_of_lt htl)]; exact hf0)
  clear hg h0 l0 ht0 hf0 htl hlt
  go_enter Tryz.func114, Tryz.ntmps114
  go_wp2
  refine wp_loop_rounds 2 ?_
  rw [rounds_succ]
  go_wp2_with (go_at_call 242; refine (unwrap_any _ _ _ g0).mono ?_; rintro e w' ⟨rfl, rfl⟩)
  rw [rounds_succ]
  go_wp2
  go_ret
  exact ⟨rfl, rfl⟩
end Go.Proofs.YtoocdfgjkeheaaaGreatDoor
/- Proved here: errors.As finds the api.Errno within 2 *api.Faults. Helper contracts. -/
namespace Go.Proofs.YtoocdfgjkeheaaaGreatDoor
open Go.RowKit Go.Extern.Stop Go.Stop Go.Extern

set_option maxHeartbeats 4000000 in
theorem er_as2 (b0 b1 : Nat) (n : Int) (t : Addr) (old : Value) (w : World) (hg : Laid w) (h0 : w.cell? ⟨b0, 1, none⟩ = some (.iface 149 (.pointer (some ⟨b1, 0, none⟩)))) (h1 : w.cell? ⟨b1, 1, none⟩ = some (.iface 84 (.int .i64 n))) (ht0 : w.cell? t = some old) (hf0 : w.frozen? t = false) :
    Calls Tryz.prog 114 #[.iface 149 (.pointer (some ⟨b0, 0, none⟩)), .iface 141 (.pointer (some t))] w fun ev w' => ev = .returned (.bool true) ∧ w' = ((((w.alloc (.cells #[.pointer (some t)] 141)).alloc (.cells #[.pointer (some ⟨1, 141, none⟩), .pointer (some ⟨w.heap.size, 0, none⟩), .int .u64 150] 178)).alloc (.cells #[.pointer (some ⟨1, 141, none⟩), .pointer (some ⟨w.heap.size, 0, none⟩), .int .u64 150] 178)).alloc (.cells #[.int .i64 n] 84)).setCell t (.int .i64 n) := by
  unfold Laid at hg
  have h6 := @run_callFunc_extern Tryz.prog 156 _ (fun args => ReflectliteValue.unpack (args.getD 0 (.tuple #[]))) Tryz.func156 (by kernel_rfl) (by kernel_rfl) (by kernel_rfl) (by kernel_rfl)
  have h7 := @run_callFunc_extern Tryz.prog 157 _ (ReflectliteValue.methodAny (ReflectliteValue.valueError "reflectlite.Value.Type" 0) (fun t _ _ _ => ReflectliteType.toType t)) Tryz.func157 (by kernel_rfl) (by kernel_rfl) (by kernel_rfl) (by kernel_rfl)
  have h8 := @run_callFunc_extern Tryz.prog 158 _ (ReflectliteValue.method (ReflectliteValue.valueError "reflectlite.Value.IsNil" 0) ReflectliteValue.isNil) Tryz.func158 (by kernel_rfl) (by kernel_rfl) (by kernel_rfl) (by kernel_rfl)
  have h27 := @run_callFunc_extern Tryz.prog 237 _ (ReflectliteType.abiMethod fun t => do pure (.int .u8 (← Rtype.kind t))) Tryz.func237 (by kernel_rfl) (by kernel_rfl) (by kernel_rfl) (by kernel_rfl)
  have h37 := @run_callFunc_extern Tryz.prog 249 _ (ReflectliteType.method ReflectliteType.elem) Tryz.func249 (by kernel_rfl) (by kernel_rfl) (by kernel_rfl) (by kernel_rfl)
  have h38 := @run_callFunc_extern Tryz.prog 250 _ (ReflectliteType.relation "Implements" ReflectliteType.implements_) Tryz.func250 (by kernel_rfl) (by kernel_rfl) (by kernel_rfl) (by kernel_rfl)
  have h10 := @run_callFunc_extern Tryz.prog 135 _ ReflectliteType.typeOf Tryz.func135 (by kernel_rfl) (by kernel_rfl) (by kernel_rfl) (by kernel_rfl)
  have h35 := @run_callFunc_extern Tryz.prog 247 _ (ReflectliteType.relation "AssignableTo" ReflectliteType.assignableTo) Tryz.func247 (by kernel_rfl) (by kernel_rfl) (by kernel_rfl) (by kernel_rfl)
  have h11 := @run_callFunc_extern Tryz.prog 189 _ (ReflectliteValue.method (ReflectliteValue.valueError "reflectlite.Value.Elem" 0) ReflectliteValue.elem) Tryz.func189 (by kernel_rfl) (by kernel_rfl) (by kernel_rfl) (by kernel_rfl)
  have h12 := @run_callFunc_extern Tryz.prog 190 _ ReflectliteValue.set Tryz.func190 (by kernel_rfl) (by kernel_rfl) (by kernel_rfl) (by kernel_rfl)
  have tO := typeOfE
  have tF := typeOfF
  have mA := methodAssignableTo
  have mU := methodUnwrap
  have a25 := assignableE
  have aF := assignableF
  have v25 := valueOfE
  have f6 := valueOfP
  have f7 := typeP
  have mK := methodKind
  have mE := methodElem
  have mI := methodImplements
  have k27 := kindP
  have k25 := kindE
  have e27 := elemP
  have i25 := implementsE
  have nA := noAsF
  have hU := hasUnwrapF
  have n8 := isNilP ⟨w.heap.size, 0, none⟩ t ((w.alloc (.cells #[.pointer (some t)] 141)).alloc (.cells #[.pointer (some ⟨1, 141, none⟩), .pointer (some ⟨w.heap.size, 0, none⟩), .int .u64 150] 178)) (by simp)
  have hlt : 0 < w.heap.size := by
    rcases Nat.eq_zero_or_pos w.heap.size with h0 | h
    · simp [World.cell?, h0] at hg
    · exact h
  have hg2 : ((w.alloc (.cells #[.pointer (some t)] 141)).alloc (.cells #[.pointer (some ⟨1, 141, none⟩), .pointer (some ⟨w.heap.size, 0, none⟩), .int .u64 150] 178)).cell? ⟨0, 0, none⟩ = some (.iface 199 (.agg #[.pointer (some ⟨1, 37, none⟩)])) := by
    rw [World.cell?_alloc_lt _ _ ⟨0, 0, none⟩ (by simp), World.cell?_alloc_lt _ _ ⟨0, 0, none⟩ hlt]; exact hg
  have htl : t.block < w.heap.size := by
    rcases Nat.lt_or_ge t.block w.heap.size with h | h
    · exact h
    · simp [World.cell?, Array.getElem?_eq_none h] at ht0
  have l0 : b0 < w.heap.size := by
    rcases Nat.lt_or_ge b0 w.heap.size with h | h
    · exact h
    · simp [World.cell?, Array.getElem?_eq_none h] at h0
  have g0 : (((w.alloc (.cells #[.pointer (some t)] 141)).alloc (.cells #[.pointer (some ⟨1, 141, none⟩), .pointer (some ⟨w.heap.size, 0, none⟩), .int .u64 150] 178)).alloc (.cells #[.pointer (some ⟨1, 141, none⟩), .pointer (some ⟨w.heap.size, 0, none⟩), .int .u64 150] 178)).cell? ⟨b0, 1, none⟩ = some (.iface 149 (.pointer (some ⟨b1, 0, none⟩))) := by
    rw [World.cell?_alloc_lt _ _ ⟨b0, 1, none⟩ (by simp; omega), World.cell?_alloc_lt _ _ ⟨b0, 1, none⟩ (by simp; omega), World.cell?_alloc_lt _ _ ⟨b0, 1, none⟩ l0]; exact h0
  have l1 : b1 < w.heap.size := by
    rcases Nat.lt_or_ge b1 w.heap.size with h | h
    · exact h
    · simp [World.cell?, Array.getElem?_eq_none h] at h1
  have g1 : (((w.alloc (.cells #[.pointer (some t)] 141)).alloc (.cells #[.pointer (some ⟨1, 141, none⟩), .pointer (some ⟨w.heap.size, 0, none⟩), .int .u64 150] 178)).alloc (.cells #[.pointer (some ⟨1, 141, none⟩), .pointer (some ⟨w.heap.size, 0, none⟩), .int .u64 150] 178)).cell? ⟨b1, 1, none⟩ = some (.iface 84 (.int .i64 n)) := by
    rw [World.cell?_alloc_lt _ _ ⟨b1, 1, none⟩ (by simp; omega), World.cell?_alloc_lt _ _ ⟨b1, 1, none⟩ (by simp; omega), World.cell?_alloc_lt _ _ ⟨b1, 1, none⟩ l1]; exact h1
  have el := elemVP ⟨w.heap.size, 0, none⟩ t (((w.alloc (.cells #[.pointer (some t)] 141)).alloc (.cells #[.pointer (some ⟨1, 141, none⟩), .pointer (some ⟨w.heap.size, 0, none⟩), .int .u64 150] 178)).alloc (.cells #[.pointer (some ⟨1, 141, none⟩), .pointer (some ⟨w.heap.size, 0, none⟩), .int .u64 150] 178)) (by rw [World.cell?_alloc_lt _ _ ⟨w.heap.size, 0, none⟩ (by simp; omega)]; simp)
  have st := setE t ⟨w.heap.size + 1 + 1 + 1, 0, none⟩ n old ((((w.alloc (.cells #[.pointer (some t)] 141)).alloc (.cells #[.pointer (some ⟨1, 141, none⟩), .pointer (some ⟨w.heap.size, 0, none⟩), .int .u64 150] 178)).alloc (.cells #[.pointer (some ⟨1, 141, none⟩), .pointer (some ⟨w.heap.size, 0, none⟩), .int .u64 150] 178)).alloc (.cells #[.int .i64 n] 84))
    (by rw [World.cell?_alloc_at _ _ _ _ (by simp)]; rfl)
    (by rw [World.cell?_alloc_lt _ _ t (by simp; omega), World.cell?_alloc_lt _ _ t (by simp; omega), World.cell?_alloc_lt _ _ t (by simp; omega), World.cell?_alloc_lt _ _ t htl]; exact ht0)
    (by rw [World.frozen?_alloc_old _ _ t (by simp; omega), World.frozen?_alloc_old _ _ t (by simp; omega), World.frozen?_alloc_old _ _ t (by simp; omega), World.frozen?_alloc_old _ _ t (Nat.ne_of_lt htl)]; exact hf0)
  clear hg h0 l0 h1 l1 ht0 hf0 htl hlt
  go_enter Tryz.func114, Tryz.ntmps114
  go_wp2
  refine wp_loop_rounds 3 ?_
  rw [rounds_succ]
  go_wp2_with (go_at_call 242; refine (unwrap_any _ _ _ g0).mono ?_; rintro e w' ⟨rfl, rfl⟩)
  rw [rounds_succ]
  go_wp2_with (go_at_call 242; refine (unwrap_any _ _ _ g1).mono ?_; rintro e w' ⟨rfl, rfl⟩)
  rw [rounds_succ]
  go_wp2
  go_ret
  exact ⟨rfl, rfl⟩
end Go.Proofs.YtoocdfgjkeheaaaGreatDoor
/- Proved here: errors.As finds the api.Errno within 3 *api.Faults. Helper contracts. -/
namespace Go.Proofs.YtoocdfgjkeheaaaGreatDoor
open Go.RowKit Go.Extern.Stop Go.Stop Go.Extern

set_option maxHeartbeats 4000000 in
theorem er_as3 (b0 b1 b2 : Nat) (n : Int) (t : Addr) (old : Value) (w : World) (hg : Laid w) (h0 : w.cell? ⟨b0, 1, none⟩ = some (.iface 149 (.pointer (some ⟨b1, 0, none⟩)))) (h1 : w.cell? ⟨b1, 1, none⟩ = some (.iface 149 (.pointer (some ⟨b2, 0, none⟩)))) (h2 : w.cell? ⟨b2, 1, none⟩ = some (.iface 84 (.int .i64 n))) (ht0 : w.cell? t = some old) (hf0 : w.frozen? t = false) :
    Calls Tryz.prog 114 #[.iface 149 (.pointer (some ⟨b0, 0, none⟩)), .iface 141 (.pointer (some t))] w fun ev w' => ev = .returned (.bool true) ∧ w' = ((((w.alloc (.cells #[.pointer (some t)] 141)).alloc (.cells #[.pointer (some ⟨1, 141, none⟩), .pointer (some ⟨w.heap.size, 0, none⟩), .int .u64 150] 178)).alloc (.cells #[.pointer (some ⟨1, 141, none⟩), .pointer (some ⟨w.heap.size, 0, none⟩), .int .u64 150] 178)).alloc (.cells #[.int .i64 n] 84)).setCell t (.int .i64 n) := by
  unfold Laid at hg
  have h6 := @run_callFunc_extern Tryz.prog 156 _ (fun args => ReflectliteValue.unpack (args.getD 0 (.tuple #[]))) Tryz.func156 (by kernel_rfl) (by kernel_rfl) (by kernel_rfl) (by kernel_rfl)
  have h7 := @run_callFunc_extern Tryz.prog 157 _ (ReflectliteValue.methodAny (ReflectliteValue.valueError "reflectlite.Value.Type" 0) (fun t _ _ _ => ReflectliteType.toType t)) Tryz.func157 (by kernel_rfl) (by kernel_rfl) (by kernel_rfl) (by kernel_rfl)
  have h8 := @run_callFunc_extern Tryz.prog 158 _ (ReflectliteValue.method (ReflectliteValue.valueError "reflectlite.Value.IsNil" 0) ReflectliteValue.isNil) Tryz.func158 (by kernel_rfl) (by kernel_rfl) (by kernel_rfl) (by kernel_rfl)
  have h27 := @run_callFunc_extern Tryz.prog 237 _ (ReflectliteType.abiMethod fun t => do pure (.int .u8 (← Rtype.kind t))) Tryz.func237 (by kernel_rfl) (by kernel_rfl) (by kernel_rfl) (by kernel_rfl)
  have h37 := @run_callFunc_extern Tryz.prog 249 _ (ReflectliteType.method ReflectliteType.elem) Tryz.func249 (by kernel_rfl) (by kernel_rfl) (by kernel_rfl) (by kernel_rfl)
  have h38 := @run_callFunc_extern Tryz.prog 250 _ (ReflectliteType.relation "Implements" ReflectliteType.implements_) Tryz.func250 (by kernel_rfl) (by kernel_rfl) (by kernel_rfl) (by kernel_rfl)
  have h10 := @run_callFunc_extern Tryz.prog 135 _ ReflectliteType.typeOf Tryz.func135 (by kernel_rfl) (by kernel_rfl) (by kernel_rfl) (by kernel_rfl)
  have h35 := @run_callFunc_extern Tryz.prog 247 _ (ReflectliteType.relation "AssignableTo" ReflectliteType.assignableTo) Tryz.func247 (by kernel_rfl) (by kernel_rfl) (by kernel_rfl) (by kernel_rfl)
  have h11 := @run_callFunc_extern Tryz.prog 189 _ (ReflectliteValue.method (ReflectliteValue.valueError "reflectlite.Value.Elem" 0) ReflectliteValue.elem) Tryz.func189 (by kernel_rfl) (by kernel_rfl) (by kernel_rfl) (by kernel_rfl)
  have h12 := @run_callFunc_extern Tryz.prog 190 _ ReflectliteValue.set Tryz.func190 (by kernel_rfl) (by kernel_rfl) (by kernel_rfl) (by kernel_rfl)
  have tO := typeOfE
  have tF := typeOfF
  have mA := methodAssignableTo
  have mU := methodUnwrap
  have a25 := assignableE
  have aF := assignableF
  have v25 := valueOfE
  have f6 := valueOfP
  have f7 := typeP
  have mK := methodKind
  have mE := methodElem
  have mI := methodImplements
  have k27 := kindP
  have k25 := kindE
  have e27 := elemP
  have i25 := implementsE
  have nA := noAsF
  have hU := hasUnwrapF
  have n8 := isNilP ⟨w.heap.size, 0, none⟩ t ((w.alloc (.cells #[.pointer (some t)] 141)).alloc (.cells #[.pointer (some ⟨1, 141, none⟩), .pointer (some ⟨w.heap.size, 0, none⟩), .int .u64 150] 178)) (by simp)
  have hlt : 0 < w.heap.size := by
    rcases Nat.eq_zero_or_pos w.heap.size with h0 | h
    · simp [World.cell?, h0] at hg
    · exact h
  have hg2 : ((w.alloc (.cells #[.pointer (some t)] 141)).alloc (.cells #[.pointer (some ⟨1, 141, none⟩), .pointer (some ⟨w.heap.size, 0, none⟩), .int .u64 150] 178)).cell? ⟨0, 0, none⟩ = some (.iface 199 (.agg #[.pointer (some ⟨1, 37, none⟩)])) := by
    rw [World.cell?_alloc_lt _ _ ⟨0, 0, none⟩ (by simp), World.cell?_alloc_lt _ _ ⟨0, 0, none⟩ hlt]; exact hg
  have htl : t.block < w.heap.size := by
    rcases Nat.lt_or_ge t.block w.heap.size with h | h
    · exact h
    · simp [World.cell?, Array.getElem?_eq_none h] at ht0
  have l0 : b0 < w.heap.size := by
    rcases Nat.lt_or_ge b0 w.heap.size with h | h
    · exact h
    · simp [World.cell?, Array.getElem?_eq_none h] at h0
  have g0 : (((w.alloc (.cells #[.pointer (some t)] 141)).alloc (.cells #[.pointer (some ⟨1, 141, none⟩), .pointer (some ⟨w.heap.size, 0, none⟩), .int .u64 150] 178)).alloc (.cells #[.pointer (some ⟨1, 141, none⟩), .pointer (some ⟨w.heap.size, 0, none⟩), .int .u64 150] 178)).cell? ⟨b0, 1, none⟩ = some (.iface 149 (.pointer (some ⟨b1, 0, none⟩))) := by
    rw [World.cell?_alloc_lt _ _ ⟨b0, 1, none⟩ (by simp; omega), World.cell?_alloc_lt _ _ ⟨b0, 1, none⟩ (by simp; omega), World.cell?_alloc_lt _ _ ⟨b0, 1, none⟩ l0]; exact h0
  have l1 : b1 < w.heap.size := by
    rcases Nat.lt_or_ge b1 w.heap.size with h | h
    · exact h
    · simp [World.cell?, Array.getElem?_eq_none h] at h1
  have g1 : (((w.alloc (.cells #[.pointer (some t)] 141)).alloc (.cells #[.pointer (some ⟨1, 141, none⟩), .pointer (some ⟨w.heap.size, 0, none⟩), .int .u64 150] 178)).alloc (.cells #[.pointer (some ⟨1, 141, none⟩), .pointer (some ⟨w.heap.size, 0, none⟩), .int .u64 150] 178)).cell? ⟨b1, 1, none⟩ = some (.iface 149 (.pointer (some ⟨b2, 0, none⟩))) := by
    rw [World.cell?_alloc_lt _ _ ⟨b1, 1, none⟩ (by simp; omega), World.cell?_alloc_lt _ _ ⟨b1, 1, none⟩ (by simp; omega), World.cell?_alloc_lt _ _ ⟨b1, 1, none⟩ l1]; exact h1
  have l2 : b2 < w.heap.size := by
    rcases Nat.lt_or_ge b2 w.heap.size with h | h
    · exact h
    · simp [World.cell?, Array.getElem?_eq_none h] at h2
  have g2 : (((w.alloc (.cells #[.pointer (some t)] 141)).alloc (.cells #[.pointer (some ⟨1, 141, none⟩), .pointer (some ⟨w.heap.size, 0, none⟩), .int .u64 150] 178)).alloc (.cells #[.pointer (some ⟨1, 141, none⟩), .pointer (some ⟨w.heap.size, 0, none⟩), .int .u64 150] 178)).cell? ⟨b2, 1, none⟩ = some (.iface 84 (.int .i64 n)) := by
    rw [World.cell?_alloc_lt _ _ ⟨b2, 1, none⟩ (by simp; omega), World.cell?_alloc_lt _ _ ⟨b2, 1, none⟩ (by simp; omega), World.cell?_alloc_lt _ _ ⟨b2, 1, none⟩ l2]; exact h2
  have el := elemVP ⟨w.heap.size, 0, none⟩ t (((w.alloc (.cells #[.pointer (some t)] 141)).alloc (.cells #[.pointer (some ⟨1, 141, none⟩), .pointer (some ⟨w.heap.size, 0, none⟩), .int .u64 150] 178)).alloc (.cells #[.pointer (some ⟨1, 141, none⟩), .pointer (some ⟨w.heap.size, 0, none⟩), .int .u64 150] 178)) (by rw [World.cell?_alloc_lt _ _ ⟨w.heap.size, 0, none⟩ (by simp; omega)]; simp)
  have st := setE t ⟨w.heap.size + 1 + 1 + 1, 0, none⟩ n old ((((w.alloc (.cells #[.pointer (some t)] 141)).alloc (.cells #[.pointer (some ⟨1, 141, none⟩), .pointer (some ⟨w.heap.size, 0, none⟩), .int .u64 150] 178)).alloc (.cells #[.pointer (some ⟨1, 141, none⟩), .pointer (some ⟨w.heap.size, 0, none⟩), .int .u64 150] 178)).alloc (.cells #[.int .i64 n] 84))
    (by rw [World.cell?_alloc_at _ _ _ _ (by simp)]; rfl)
    (by rw [World.cell?_alloc_lt _ _ t (by simp; omega), World.cell?_alloc_lt _ _ t (by simp; omega), World.cell?_alloc_lt _ _ t (by simp; omega), World.cell?_alloc_lt _ _ t htl]; exact ht0)
    (by rw [World.frozen?_alloc_old _ _ t (by simp; omega), World.frozen?_alloc_old _ _ t (by simp; omega), World.frozen?_alloc_old _ _ t (by simp; omega), World.frozen?_alloc_old _ _ t (Nat.ne_of_lt htl)]; exact hf0)
  clear hg h0 l0 h1 l1 h2 l2 ht0 hf0 htl hlt
  go_enter Tryz.func114, Tryz.ntmps114
  go_wp2
  refine wp_loop_rounds 4 ?_
  rw [rounds_succ]
  go_wp2_with (go_at_call 242; refine (unwrap_any _ _ _ g0).mono ?_; rintro e w' ⟨rfl, rfl⟩)
  rw [rounds_succ]
  go_wp2_with (go_at_call 242; refine (unwrap_any _ _ _ g1).mono ?_; rintro e w' ⟨rfl, rfl⟩)
  rw [rounds_succ]
  go_wp2_with (go_at_call 242; refine (unwrap_any _ _ _ g2).mono ?_; rintro e w' ⟨rfl, rfl⟩)
  rw [rounds_succ]
  go_wp2
  go_ret
  exact ⟨rfl, rfl⟩
end Go.Proofs.YtoocdfgjkeheaaaGreatDoor
/- Proved here: errors.As and dovecotelaw0.Num at an api.Errno with up to three *api.Faults around it. Helper contracts. -/
namespace Go.Proofs.YtoocdfgjkeheaaaGreatDoor
open Go.RowKit Go.Extern.Stop Go.Stop Go.Extern

theorem er_as (d : Nat) (hd : d ≤ 3) (v : Value) (n : Int) (t : Addr) (old : Value) (w : World) (hg : Laid w) (h : Er w d v n) (ht0 : w.cell? t = some old) (hf0 : w.frozen? t = false) :
    Calls Tryz.prog 114 #[v, .iface 141 (.pointer (some t))] w fun ev w' => ev = .returned (.bool true) ∧ w' = ((((w.alloc (.cells #[.pointer (some t)] 141)).alloc (.cells #[.pointer (some ⟨1, 141, none⟩), .pointer (some ⟨w.heap.size, 0, none⟩), .int .u64 150] 178)).alloc (.cells #[.pointer (some ⟨1, 141, none⟩), .pointer (some ⟨w.heap.size, 0, none⟩), .int .u64 150] 178)).alloc (.cells #[.int .i64 n] 84)).setCell t (.int .i64 n) := by
  match d, hd, h with
  | 0, _, h => cases h; exact er_as0 n t old w hg ht0 hf0
  | 1, _, ⟨b, u, h1, h2, h3⟩ => cases h1; cases h3; exact er_as1 b n t old w hg h2 ht0 hf0
  | 2, _, ⟨b, u, h1, h2, b', u', h3, h4, h5⟩ => cases h1; cases h3; cases h5; exact er_as2 b b' n t old w hg h2 h4 ht0 hf0
  | 3, _, ⟨b, u, h1, h2, b', u', h3, h4, b'', u'', h5, h6, h7⟩ => cases h1; cases h3; cases h5; cases h7; exact er_as3 b b' b'' n t old w hg h2 h4 h6 ht0 hf0
set_option maxHeartbeats 1000000 in
theorem er_num (d : Nat) (hd : d ≤ 3) (v : Value) (n : Int) (w : World) (hg : Laid w) (h : Er w d v n) :
    Calls Tryz.prog 63 #[v] w fun e w' => e = .returned (.int .i64 n) ∧ Below w.heap.size w w' := by
  have hB : Below w.heap.size w (w.alloc (.cells #[.int .i64 0] 84)) := (Below.refl _ _).alloc (Nat.le_refl _) _
  have HG := hide (hg.below hB hg.pos)
  have HE := hide (h.below hB)
  obtain ⟨tt, x, rfl⟩ := h.iface
  clear hg h hB
  go_enter Tryz.func63, Tryz.ntmps63
  go_wp2_with fail
  refine (er_as d hd _ n ⟨w.heap.size, 0, none⟩ (.int .i64 0) _ (unhide HG) (unhide HE) (by simp) (by simp)).mono ?_
  rintro e w' ⟨rfl, rfl⟩
  go_wp2
  go_ret
  refine ⟨rfl, ?_⟩
  exact (((((((Below.refl _ _).alloc (Nat.le_refl _) _).alloc (by simp) _).alloc (by simp; omega) _).alloc (by simp; omega) _).alloc (by simp; omega) _))
/-- an error as a call tells it: none (0), or a number with up to three Faults around it -/
def ErrX (w : World) (v : Value) (n : Int) : Prop := (n = 0 ∧ v = .nilIface) ∨ ∃ d, d ≤ 3 ∧ Er w d v n
theorem ErrX.below {w w' : World} {v : Value} {n : Int} (h : ErrX w v n) (hb : Below w.heap.size w w') : ErrX w' v n := by
  rcases h with h | ⟨d, hd, h⟩
  · exact .inl h
  · exact .inr ⟨d, hd, h.below hb⟩
theorem numx (v : Value) (n : Int) (w : World) (hg : Laid w) (hv : ErrX w v n) : Calls Tryz.prog 63 #[v] w fun e w' => e = .returned (.int .i64 n) ∧ Below w.heap.size w w' := by
  rcases hv with ⟨rfl, rfl⟩ | ⟨d, hd, h⟩
  · refine (num_nil w).mono ?_
    rintro e w' ⟨rfl, rfl⟩
    exact ⟨rfl, Below.refl _ _⟩
  · exact er_num d hd v n w hg h
end Go.Proofs.YtoocdfgjkeheaaaGreatDoor
/- Proved here: packet's wrap, fault, broken. Helper contracts. -/
namespace Go.Proofs.YtoocdfgjkeheaaaGreatDoor.K
open Go.RowKit Go.Extern.Stop Go.Stop Go.Extern
set_option maxRecDepth 100000

abbrev pwrapW (v : Value) (w : World) : World := w.alloc (.cells #[.string ⟨#[112, 97, 99, 107, 101, 116]⟩, v] 151)
theorem pwrap_any (t : TypeId) (x : Value) (w : World) : Calls Tryz.prog 86 #[.iface t x] w fun e w' => e = .returned (.iface 149 (.pointer (some ⟨w.heap.size, 0, none⟩))) ∧ w' = pwrapW (.iface t x) w := by
  go_enter Tryz.func86, Tryz.ntmps86
  go_wp2
  go_ret
  exact ⟨rfl, rfl⟩
theorem pfault_any (n : Int) (w : World) : Calls Tryz.prog 55 #[.int .i64 n] w fun e w' => e = .returned (.iface 149 (.pointer (some ⟨w.heap.size, 0, none⟩))) ∧ w' = pwrapW (.iface 84 (.int .i64 n)) w := by
  go_enter Tryz.func55, Tryz.ntmps55
  go_wp2_with (go_at_call 86; refine (pwrap_any _ _ _).mono ?_; rintro e w' ⟨rfl, rfl⟩)
  go_ret
  exact ⟨rfl, rfl⟩
theorem pwrap_er (d : Nat) (n : Int) (v : Value) (w : World) (h : Er w d v n) : Er (pwrapW v w) (d + 1) (.iface 149 (.pointer (some ⟨w.heap.size, 0, none⟩))) n :=
  ⟨w.heap.size, v, rfl, by simp, h.below ((Below.refl _ _).alloc (Nat.le_refl _) _)⟩
theorem pwrap_below (v : Value) (w : World) : Below w.heap.size w (pwrapW v w) := (Below.refl _ _).alloc (Nat.le_refl _) _
/-- an error of packet's: a Fault with the number n within -/
def ErP (w : World) (E : Value) (n : Int) : Prop := ∃ x d, E = .iface 149 x ∧ d ≤ 3 ∧ Er w d E n
theorem pf_use (n : Int) (w : World) : Calls Tryz.prog 55 #[.int .i64 n] w fun e w' => ∃ x, e = .returned (.iface 149 x) ∧ Hid (ErP w' (.iface 149 x) n) ∧ Below w.heap.size w w' := by
  refine (pfault_any n w).mono ?_
  rintro e w' ⟨rfl, rfl⟩
  exact ⟨_, rfl, ⟨_, 1, rfl, by omega, pwrap_er 0 n _ w rfl⟩, pwrap_below _ _⟩
theorem pw_use (d : Nat) (hd : d ≤ 2) (v : Value) (n : Int) (w : World) (h : Er w d v n) : Calls Tryz.prog 86 #[v] w fun e w' => ∃ x, e = .returned (.iface 149 x) ∧ Hid (ErP w' (.iface 149 x) n) ∧ Below w.heap.size w w' := by
  obtain ⟨t, x, rfl⟩ := h.iface
  refine (pwrap_any t x w).mono ?_
  rintro e w' ⟨rfl, rfl⟩
  exact ⟨_, rfl, ⟨_, d + 1, rfl, by omega, pwrap_er d n _ w h⟩, pwrap_below _ _⟩
theorem pbroken (d : Nat) (hd : d ≤ 2) (v : Value) (n : Int) (w : World) (h : Er w d v n) : Calls Tryz.prog 57 #[v] w fun e w' => ∃ x, e = .returned (.iface 149 x) ∧ Hid (ErP w' (.iface 149 x) 1) ∧ Below w.heap.size w w' := by
  obtain ⟨t, x, rfl⟩ := h.iface
  have H := hide h
  clear h
  by_cases h : n = 1
  · subst h
    go_enter Tryz.func57, Tryz.ntmps57
    go_wp2_with (first | (go_at_call 81; refine (er_Is d (by omega) _ 1 1 _ (unhide H)).mono ?_; rintro e w' ⟨rfl, rfl⟩) | (go_at_call 86; refine (pw_use d hd _ 1 _ (unhide H)).mono ?_; rintro e w' ⟨E, rfl, hE, hb⟩))
    go_ret
    exact ⟨_, rfl, hE, hb⟩
  · have hb : (n == 1) = false := beq_eq_false_iff_ne.2 h
    go_enter Tryz.func57, Tryz.ntmps57
    go_wp2_with (first | (go_at_call 81; refine (er_Is d (by omega) _ n 1 _ (unhide H)).mono ?_; rintro e w' ⟨rfl, rfl⟩) | (go_at_call 55; refine (pf_use 1 _).mono ?_; rintro e w' ⟨E, rfl, hE, hb'⟩))
    go_ret
    exact ⟨_, rfl, hE, hb'⟩
end Go.Proofs.YtoocdfgjkeheaaaGreatDoor.K
/- Proved here: packet.measure tells where a packet's body begins and ends. Helper contracts. -/
namespace Go.Proofs.YtoocdfgjkeheaaaGreatDoor.K
open Go.RowKit
set_option maxRecDepth 100000

/-- where the body begins, where it ends, the error's number -/
def meas (l : List Int) : Nat × Nat × Int :=
  if (V.vget (l.drop 1)).2.2 ≠ 0 then (0, 0, (V.vget (l.drop 1)).2.2)
  else if 65536 < 1 + ghd (l.drop 1) + (gid (l.drop 1)).toNat then (0, 0, 2)
  else if l.length < 1 + ghd (l.drop 1) + (gid (l.drop 1)).toNat then (0, 0, 3)
  else (1 + ghd (l.drop 1), 1 + ghd (l.drop 1) + (gid (l.drop 1)).toNat, 0)
def MeasPost (l : List Int) (w : World) (e : Ending) (w' : World) : Prop :=
  ∃ E, e = .returned (.tuple #[.int .i64 ((meas l).1 : Nat), .int .i64 ((meas l).2.1 : Nat), E]) ∧ Hid (((meas l).2.2 = 0 ∧ E = .nilIface) ∨ ((meas l).2.2 ≠ 0 ∧ ErP w' E (meas l).2.2)) ∧ Below w.heap.size w w'
theorem er_of_inn {w : World} {v : Value} {n : Int} (h : Inn w v n) : ∃ d, d ≤ 2 ∧ Er w d v n := by
  rcases h with h | ⟨b, h1, h2⟩
  · exact ⟨0, by omega, h⟩
  · exact ⟨1, by omega, b, _, h1, h2, rfl⟩
set_option maxHeartbeats 2000000 in
theorem measure_any (v : Value) (l : List Int) (w : World) (h : Byt w v l) (hl : l ≠ []) : Calls Tryz.prog 70 #[v] w (MeasPost l w) := by
  have hl1 : 1 ≤ l.length := List.length_pos_iff.2 hl
  obtain ⟨b, off, cap, rfl, hc1, hc2⟩ := h.form1 hl1
  unfold maxLen at hc2
  have hmd : ∀ (N K : Nat), gid (l.drop 1) = N → ghd (l.drop 1) = K → (V.vget (l.drop 1)).2.2 = 0 → meas l = if 65536 < 1 + K + N then (0, 0, 2) else if l.length < 1 + K + N then (0, 0, 3) else (1 + K, 1 + K + N, 0) := fun N K e1 e2 e3 => by
    unfold meas
    rw [if_neg (by rw [e3]; decide), e1, e2, Int.toNat_natCast]
  have hme : (V.vget (l.drop 1)).2.2 ≠ 0 → meas l = (0, 0, (V.vget (l.drop 1)).2.2) := fun e => by
    unfold meas
    rw [if_pos e]
  have key : ∀ t : Value, Byt w t (l.drop 1) → (V.vget (l.drop 1)).2.2 = 0 → ∃ (N K : Nat), gid (l.drop 1) = N ∧ ghd (l.drop 1) = K ∧ K ≤ 4 ∧ N ≤ 268435455 ∧ V.vget (l.drop 1) = ((N : Int), (K : Int), 0) := fun t ht hv => by
    obtain ⟨hv', h1, h2, h3, h4, h5⟩ := vget_is (l.drop 1) ht.range hv
    have hQ4 := ghd_le (l.drop 1) h2 h5
    obtain ⟨N, hN⟩ : ∃ N : Nat, gid (l.drop 1) = N := ⟨(gid (l.drop 1)).toNat, by omega⟩
    exact ⟨N, ghd (l.drop 1), hN, rfl, hQ4, by omega, by rw [hv', hN]⟩
  have HDR := hide (h.drop' 1 hl1)
  have HMD := hide hmd
  have HME := hide hme
  have HKEY := hide key
  clear h hmd hme key hl
  generalize hn : l.length = n at hc1 hl1 HDR HMD
  have HN := hide hn
  clear hn
  by_cases hcap : cap = 1
  · subst hcap
    obtain rfl : n = 1 := by omega
    have HT : Hid (Byt w (.slice (some ⟨b, off, none⟩) 0 0) (l.drop 1)) := by
      show Byt _ _ _
      have k := unhide HDR
      rw [if_pos rfl, Nat.sub_self] at k
      exact k
    clear HDR
    by_cases hv : (V.vget (l.drop 1)).2.2 = 0
    · obtain ⟨N, K, e1, e2, hK, hN2, hvg⟩ := (unhide HKEY) _ (unhide HT) hv
      have HM := hide ((unhide HMD) N K e1 e2 hv)
      have HV := hide hvg
      clear hvg e1 e2 hv HMD HME HKEY
      have HG := hide (vget_good _ (l.drop 1) w (unhide HT) N K (unhide HV))
      by_cases h1 : 65536 < 1 + K + N
      · rw [if_pos h1] at HM
        go_enter Tryz.func70, Tryz.ntmps70
        go_wp2_with fail
        refine (unhide HG).mono ?_
        rintro e w1 ⟨rfl, hb1⟩
        have HB1 := hide hb1
        clear hb1
        go_wp2_with fail
        refine (pf_use 2 _).mono ?_
        rintro e w2 ⟨x, rfl, hE, hb2⟩
        have HB2 : Hid (Below w.heap.size w w2) := (unhide HB1).trans (hb2.mono (unhide HB1).size)
        clear hb2
        go_wp2
        go_returns
        unfold MeasPost
        rw [unhide HM]
        exact ⟨_, rfl, .inr ⟨by decide, unhide hE⟩, unhide HB2⟩
      · rw [if_neg h1] at HM
        by_cases h2 : 1 < 1 + K + N
        · rw [if_pos h2] at HM
          go_enter Tryz.func70, Tryz.ntmps70
          go_wp2_with fail
          refine (unhide HG).mono ?_
          rintro e w1 ⟨rfl, hb1⟩
          have HB1 := hide hb1
          clear hb1
          go_wp2_with fail
          refine (pf_use 3 _).mono ?_
          rintro e w2 ⟨x, rfl, hE, hb2⟩
          have HB2 : Hid (Below w.heap.size w w2) := (unhide HB1).trans (hb2.mono (unhide HB1).size)
          clear hb2
          go_wp2
          go_returns
          unfold MeasPost
          rw [unhide HM]
          exact ⟨_, rfl, .inr ⟨by decide, unhide hE⟩, unhide HB2⟩
        · rw [if_neg h2] at HM
          go_enter Tryz.func70, Tryz.ntmps70
          go_wp2_with fail
          refine (unhide HG).mono ?_
          rintro e w1 ⟨rfl, hb1⟩
          have HB1 := hide hb1
          clear hb1
          go_wp2
          go_returns
          unfold MeasPost
          rw [unhide HM]
          exact ⟨_, by go_num, .inl ⟨rfl, rfl⟩, unhide HB1⟩
    · have HM := hide ((unhide HME) hv)
      generalize hm : (V.vget (l.drop 1)).2.2 = m at hv HM
      have HG := hide (vget_fail _ (l.drop 1) w (unhide HT) m hm hv)
      clear hm HMD HME HKEY
      go_enter Tryz.func70, Tryz.ntmps70
      go_wp2_with fail
      refine (unhide HG).mono ?_
      rintro e w1 ⟨a1, a2, x, rfl, hi, hb1⟩
      have HB1 := hide hb1
      clear hb1
      obtain ⟨d, hd, he⟩ := er_of_inn (unhide hi)
      have HE1 := hide he
      clear he
      go_wp2_with fail
      refine (pw_use d hd _ m _ (unhide HE1)).mono ?_
      rintro e w2 ⟨y, rfl, hE, hb2⟩
      have HB2 : Hid (Below w.heap.size w w2) := (unhide HB1).trans (hb2.mono (unhide HB1).size)
      clear hb2
      go_wp2
      go_returns
      unfold MeasPost
      rw [unhide HM]
      exact ⟨_, rfl, .inr ⟨hv, unhide hE⟩, unhide HB2⟩
  · have HT : Hid (Byt w (.slice (some ⟨b, off + 1, none⟩) (n - 1) (cap - 1)) (l.drop 1)) := by
      show Byt _ _ _
      have k := unhide HDR
      rw [if_neg hcap] at k
      exact k
    clear HDR
    by_cases hv : (V.vget (l.drop 1)).2.2 = 0
    · obtain ⟨N, K, e1, e2, hK, hN2, hvg⟩ := (unhide HKEY) _ (unhide HT) hv
      have HM := hide ((unhide HMD) N K e1 e2 hv)
      have HV := hide hvg
      clear hvg e1 e2 hv HMD HME HKEY
      have HG := hide (vget_good _ (l.drop 1) w (unhide HT) N K (unhide HV))
      by_cases h1 : 65536 < 1 + K + N
      · rw [if_pos h1] at HM
        go_enter Tryz.func70, Tryz.ntmps70
        go_wp2_with fail
        refine (unhide HG).mono ?_
        rintro e w1 ⟨rfl, hb1⟩
        have HB1 := hide hb1
        clear hb1
        go_wp2_with fail
        refine (pf_use 2 _).mono ?_
        rintro e w2 ⟨x, rfl, hE, hb2⟩
        have HB2 : Hid (Below w.heap.size w w2) := (unhide HB1).trans (hb2.mono (unhide HB1).size)
        clear hb2
        go_wp2
        go_returns
        unfold MeasPost
        rw [unhide HM]
        exact ⟨_, rfl, .inr ⟨by decide, unhide hE⟩, unhide HB2⟩
      · rw [if_neg h1] at HM
        by_cases h2 : n < 1 + K + N
        · rw [if_pos h2] at HM
          go_enter Tryz.func70, Tryz.ntmps70
          go_wp2_with fail
          refine (unhide HG).mono ?_
          rintro e w1 ⟨rfl, hb1⟩
          have HB1 := hide hb1
          clear hb1
          go_wp2_with fail
          refine (pf_use 3 _).mono ?_
          rintro e w2 ⟨x, rfl, hE, hb2⟩
          have HB2 : Hid (Below w.heap.size w w2) := (unhide HB1).trans (hb2.mono (unhide HB1).size)
          clear hb2
          go_wp2
          go_returns
          unfold MeasPost
          rw [unhide HM]
          exact ⟨_, rfl, .inr ⟨by decide, unhide hE⟩, unhide HB2⟩
        · rw [if_neg h2] at HM
          go_enter Tryz.func70, Tryz.ntmps70
          go_wp2_with fail
          refine (unhide HG).mono ?_
          rintro e w1 ⟨rfl, hb1⟩
          have HB1 := hide hb1
          clear hb1
          go_wp2
          go_returns
          unfold MeasPost
          rw [unhide HM]
          exact ⟨_, by go_num, .inl ⟨rfl, rfl⟩, unhide HB1⟩
    · have HM := hide ((unhide HME) hv)
      generalize hm : (V.vget (l.drop 1)).2.2 = m at hv HM
      have HG := hide (vget_fail _ (l.drop 1) w (unhide HT) m hm hv)
      clear hm HMD HME HKEY
      go_enter Tryz.func70, Tryz.ntmps70
      go_wp2_with fail
      refine (unhide HG).mono ?_
      rintro e w1 ⟨a1, a2, x, rfl, hi, hb1⟩
      have HB1 := hide hb1
      clear hb1
      obtain ⟨d, hd, he⟩ := er_of_inn (unhide hi)
      have HE1 := hide he
      clear he
      go_wp2_with fail
      refine (pw_use d hd _ m _ (unhide HE1)).mono ?_
      rintro e w2 ⟨y, rfl, hE, hb2⟩
      have HB2 : Hid (Below w.heap.size w w2) := (unhide HB1).trans (hb2.mono (unhide HB1).size)
      clear hb2
      go_wp2
      go_returns
      unfold MeasPost
      rw [unhide HM]
      exact ⟨_, rfl, .inr ⟨hv, unhide hE⟩, unhide HB2⟩
end Go.Proofs.YtoocdfgjkeheaaaGreatDoor.K
/- Proved here: packet's reader: packet, kind by kind. Helper contracts. -/
namespace Go.Proofs.YtoocdfgjkeheaaaGreatDoor.K
open Go.RowKit
set_option maxRecDepth 100000

def PackPost (w0 : World) (R : Nat) (P : Pa) (st : Option (List Int)) (w : World) (e : Ending) (w' : World) : Prop :=
  e = .returned (.tuple #[]) ∧ ∃ (p' : Pkv) (P' : Pa) (st' : Option (List Int)), Pk w' R p' ∧ Hid (Mean w' w.heap.size p' P') ∧ Stp (packet? P) st P' st' ∧ RS w0 w' R st' ∧ BX R isAny w w'
theorem Mean.bx {w w' : World} {R B : Nat} {may : Nat → Prop} {p : Pkv} {P : Pa} (h : Mean w B p P) (hx : BX R may w w') (hR : R < B) : Mean w' B p P :=
  ⟨h.sc, owns_bx h.props hx hR, by
    obtain ⟨ws, h1, h2, h3⟩ := h.wills
    exact ⟨ws, owns_bx h1 hx hR, h2, fun i a b ha hb => by
      obtain ⟨k1, k2, k3, k4, k5⟩ := h3 i a b ha hb
      exact ⟨k1, k2, k3, k4, owns_bx k5 hx hR⟩⟩, owns_bx h.user hx hR, owns_bx h.pass hx hR, owns_bx h.subs hx hR, owns_bx h.filters hx hR, owns_bx h.codes hx hR⟩
theorem packet_stp {P P' : Pa} {st st1 st2 : Option (List Int)} (h : Stp (body? P) st P' st1) (h2 : Stp endR st1 () st2) : Stp (packet? P) st P' st2 := h.bind (h2.bind (Stp.pure _ _))
theorem stp_le {α : Type} {f : List Int → Option (α × List Int)} (hf : ∀ l x l', f l = some (x, l') → l'.length ≤ l.length) {st : Option (List Int)} {l' : List Int} {x : α} (h : Stp f st x (some l')) : ∃ l, st = some l ∧ l'.length ≤ l.length := by
  cases st with
  | none => cases h
  | some l =>
    unfold Stp at h
    simp only at h
    cases hq : f l with
    | none => rw [hq] at h; cases h
    | some r =>
      obtain ⟨y, l2⟩ := r
      rw [hq] at h
      obtain ⟨_, e⟩ := h
      cases e
      exact ⟨l, rfl, hf l y l' hq⟩
theorem stp_le2 {α β : Type} {f : List Int → Option (α × List Int)} {g : List Int → Option (β × List Int)} (hf : ∀ l x l', f l = some (x, l') → l'.length ≤ l.length) (hg : ∀ l x l', g l = some (x, l') → l'.length ≤ l.length) {st st1 : Option (List Int)} {l' : List Int} {x : α} {y : β} (h : Stp f st x st1) (h2 : Stp g st1 y (some l')) (hl : ∀ l, st = some l → l.length ≤ 65536) : l'.length ≤ 65536 := by
  obtain ⟨l1, rfl, k1⟩ := stp_le hg h2
  obtain ⟨l0, rfl, k0⟩ := stp_le hf h
  have := hl l0 rfl
  omega
theorem id?_le (l : List Int) (x : Int) (l' : List Int) (h : id? l = some (x, l')) : l'.length ≤ l.length := by
  unfold id? at h
  match l, h with
  | [], h => cases h
  | [a], h => cases h
  | a :: b :: t, h =>
    simp only [two?] at h
    split at h
    · cases h
    · simp at h
      obtain ⟨_, rfl⟩ := h
      simp
      omega
theorem props?_le (place : Int) (l : List Int) (x : List Pr) (l' : List Int) (h : props? place l = some (x, l')) : l'.length ≤ l.length := by
  unfold props? at h
  split at h
  · simp at h
    obtain ⟨_, rfl⟩ := h
    rw [List.length_drop]
    omega
  · cases h
set_option maxHeartbeats 4000000 in
theorem packet_k12 (R : Nat) (st : Option (List Int)) (w0 w : World) (h : RS w0 w R st) (hp : Pk w R (pk0 12 false 0 false)) (hl : ∀ l, st = some l → l.length ≤ 65536) : Calls Tryz.prog 71 #[.pointer (some ⟨R, 0, none⟩)] w (PackPost w0 R (pa0 12 false 0 false) st w) := by
  have hlt := h.lt
  have c0 := hp.kind
  have HP := hide hp
  have HS := hide h
  have HL := hide hl
  clear hp h hl
  simp only [pk0] at c0
  go_enter Tryz.func71, Tryz.ntmps71
  have HS1 := HS
  have HP1 := HP
  have HX1 : Hid (BX R isAny w w) := BX.refl _ _ _
  obtain ⟨ao, n, cap, c19, ⟨g1, g2⟩, gl⟩ := (unhide HS1).rest
  unfold maxLen at g2
  have GL := hide gl
  clear gl
  have HM : Hid (Mean w w.heap.size (pk0 12 false 0 false) (pa0 12 false 0 false)) := ⟨⟨rfl, rfl, rfl, rfl, rfl, rfl, rfl, rfl, rfl, rfl, rfl, rfl⟩, row0 _ _ _ _, wills0 _ _, row0 _ _ _ _, row0 _ _ _ _, row0 _ _ _ _, row0 _ _ _ _, row0 _ _ _ _⟩
  have hbz : ((n : Int) == 0) = decide (n = 0) := by by_cases h : n = 0 <;> simp [h]
  go_wp2_with fail
  refine (must_any R _ st w0 _ (unhide HS1)).mono ?_
  rintro e wz ⟨rfl, hz, hxz⟩
  have HZ := hide hz
  have HXZ := hide hxz
  clear hz hxz
  go_wp2
  go_end0
  have hBY : Stp (body? (pa0 12 false 0 false)) st (pa0 12 false 0 false) st := by
    exact (Stp.pure (pa0 12 false 0 false) st)
  exact ⟨rfl, (pk0 12 false 0 false), (pa0 12 false 0 false), _, (unhide HP1).bx (unhide HXZ), (unhide HM).bx (unhide HXZ) hlt, packet_stp hBY (stp_end (unhide GL) _ (by first | exact hbz | rfl | simp)), unhide HZ, (unhide HX1).trans (unhide HXZ).any⟩
set_option maxHeartbeats 4000000 in
theorem packet_k13 (R : Nat) (st : Option (List Int)) (w0 w : World) (h : RS w0 w R st) (hp : Pk w R (pk0 13 false 0 false)) (hl : ∀ l, st = some l → l.length ≤ 65536) : Calls Tryz.prog 71 #[.pointer (some ⟨R, 0, none⟩)] w (PackPost w0 R (pa0 13 false 0 false) st w) := by
  have hlt := h.lt
  have c0 := hp.kind
  have HP := hide hp
  have HS := hide h
  have HL := hide hl
  clear hp h hl
  simp only [pk0] at c0
  go_enter Tryz.func71, Tryz.ntmps71
  have HS1 := HS
  have HP1 := HP
  have HX1 : Hid (BX R isAny w w) := BX.refl _ _ _
  obtain ⟨ao, n, cap, c19, ⟨g1, g2⟩, gl⟩ := (unhide HS1).rest
  unfold maxLen at g2
  have GL := hide gl
  clear gl
  have HM : Hid (Mean w w.heap.size (pk0 13 false 0 false) (pa0 13 false 0 false)) := ⟨⟨rfl, rfl, rfl, rfl, rfl, rfl, rfl, rfl, rfl, rfl, rfl, rfl⟩, row0 _ _ _ _, wills0 _ _, row0 _ _ _ _, row0 _ _ _ _, row0 _ _ _ _, row0 _ _ _ _, row0 _ _ _ _⟩
  have hbz : ((n : Int) == 0) = decide (n = 0) := by by_cases h : n = 0 <;> simp [h]
  go_wp2_with fail
  refine (must_any R _ st w0 _ (unhide HS1)).mono ?_
  rintro e wz ⟨rfl, hz, hxz⟩
  have HZ := hide hz
  have HXZ := hide hxz
  clear hz hxz
  go_wp2
  go_end0
  have hBY : Stp (body? (pa0 13 false 0 false)) st (pa0 13 false 0 false) st := by
    exact (Stp.pure (pa0 13 false 0 false) st)
  exact ⟨rfl, (pk0 13 false 0 false), (pa0 13 false 0 false), _, (unhide HP1).bx (unhide HXZ), (unhide HM).bx (unhide HXZ) hlt, packet_stp hBY (stp_end (unhide GL) _ (by first | exact hbz | rfl | simp)), unhide HZ, (unhide HX1).trans (unhide HXZ).any⟩
set_option maxHeartbeats 4000000 in
theorem packet_k4 (R : Nat) (st : Option (List Int)) (w0 w : World) (h : RS w0 w R st) (hp : Pk w R (pk0 4 false 0 false)) (hl : ∀ l, st = some l → l.length ≤ 65536) : Calls Tryz.prog 71 #[.pointer (some ⟨R, 0, none⟩)] w (PackPost w0 R (pa0 4 false 0 false) st w) := by
  have hlt := h.lt
  have c0 := hp.kind
  have HP := hide hp
  have HS := hide h
  have HL := hide hl
  clear hp h hl
  simp only [pk0] at c0
  go_enter Tryz.func71, Tryz.ntmps71
  go_wp2_with fail
  refine (id_any R st w0 w (unhide HS)).mono ?_
  rintro e w1 ⟨i, st1, rfl, -, hs1, h1, hx1⟩
  have hp1 := (unhide HP).bx hx1
  have c5 := hp1.id
  have f5 := hp1.id_f
  have HP1 := hide (hp1.set_id i)
  have HS1 := hide (h1.set 5 (.int .i64 i) (by decide))
  have HX1 := hide ((hx1.any).set 5 (.int .i64 i) trivial)
  have HST1 := hide hs1
  clear hp1 h1 hx1 hs1
  go_wp2_with fail
  refine (reason_any R { (pk0 4 false 0 false) with id := i } st1 w0 _ (unhide HS1) (unhide HP1) rfl rfl).mono ?_
  rintro e w2 ⟨rfl, c, t, x, st2, hp2, hO2, hs2, h2, hx2⟩
  have HP2 := hide hp2
  have HS2 := hide h2
  have HX2 := hide ((unhide HX1).trans hx2)
  have HST2 : Hid (Stp (reason? 4) st1 (c, x) st2) := hs2
  have HO2 : Hid (w2.ownsRow w.heap.size 120 4 t.val x.length (pcs x)) := owns_mono (unhide hO2) (unhide HX1).size
  clear hp2 h2 hx2 hs2 hO2
  obtain ⟨ao, n, cap, c19, ⟨g1, g2⟩, gl⟩ := (unhide HS2).rest
  unfold maxLen at g2
  have GL := hide gl
  clear gl
  have HM : Hid (Mean w2 w.heap.size { (pk0 4 false 0 false) with id := i, code := c, props := t } { (pa0 4 false 0 false) with id := i, code := c, props := x }) := ⟨⟨rfl, rfl, rfl, rfl, rfl, rfl, rfl, rfl, rfl, rfl, rfl, rfl⟩, unhide HO2, wills0 _ _, row0 _ _ _ _, row0 _ _ _ _, row0 _ _ _ _, row0 _ _ _ _, row0 _ _ _ _⟩
  have hbz : ((n : Int) == 0) = decide (n = 0) := by by_cases h : n = 0 <;> simp [h]
  go_wp2_with fail
  refine (must_any R _ st2 w0 _ (unhide HS2)).mono ?_
  rintro e wz ⟨rfl, hz, hxz⟩
  have HZ := hide hz
  have HXZ := hide hxz
  clear hz hxz
  go_wp2
  go_end0
  have hBY : Stp (body? (pa0 4 false 0 false)) st { (pa0 4 false 0 false) with id := i, code := c, props := x } st2 := by
    show Stp (bindR id? fun i => bindR (reason? 4) fun r => pureR { (pa0 4 false 0 false) with id := i, code := r.1, props := r.2 }) st { (pa0 4 false 0 false) with id := i, code := c, props := x } st2
    exact (unhide HST1).bind ((unhide HST2).bind (Stp.pure _ _))
  exact ⟨rfl, { (pk0 4 false 0 false) with id := i, code := c, props := t }, { (pa0 4 false 0 false) with id := i, code := c, props := x }, _, (unhide HP2).bx (unhide HXZ), (unhide HM).bx (unhide HXZ) hlt, packet_stp hBY (stp_end (unhide GL) _ (by first | exact hbz | rfl | simp)), unhide HZ, (unhide HX2).trans (unhide HXZ).any⟩
set_option maxHeartbeats 4000000 in
theorem packet_k5 (R : Nat) (st : Option (List Int)) (w0 w : World) (h : RS w0 w R st) (hp : Pk w R (pk0 5 false 0 false)) (hl : ∀ l, st = some l → l.length ≤ 65536) : Calls Tryz.prog 71 #[.pointer (some ⟨R, 0, none⟩)] w (PackPost w0 R (pa0 5 false 0 false) st w) := by
  have hlt := h.lt
  have c0 := hp.kind
  have HP := hide hp
  have HS := hide h
  have HL := hide hl
  clear hp h hl
  simp only [pk0] at c0
  go_enter Tryz.func71, Tryz.ntmps71
  go_wp2_with fail
  refine (id_any R st w0 w (unhide HS)).mono ?_
  rintro e w1 ⟨i, st1, rfl, -, hs1, h1, hx1⟩
  have hp1 := (unhide HP).bx hx1
  have c5 := hp1.id
  have f5 := hp1.id_f
  have HP1 := hide (hp1.set_id i)
  have HS1 := hide (h1.set 5 (.int .i64 i) (by decide))
  have HX1 := hide ((hx1.any).set 5 (.int .i64 i) trivial)
  have HST1 := hide hs1
  clear hp1 h1 hx1 hs1
  go_wp2_with fail
  refine (reason_any R { (pk0 5 false 0 false) with id := i } st1 w0 _ (unhide HS1) (unhide HP1) rfl rfl).mono ?_
  rintro e w2 ⟨rfl, c, t, x, st2, hp2, hO2, hs2, h2, hx2⟩
  have HP2 := hide hp2
  have HS2 := hide h2
  have HX2 := hide ((unhide HX1).trans hx2)
  have HST2 : Hid (Stp (reason? 5) st1 (c, x) st2) := hs2
  have HO2 : Hid (w2.ownsRow w.heap.size 120 4 t.val x.length (pcs x)) := owns_mono (unhide hO2) (unhide HX1).size
  clear hp2 h2 hx2 hs2 hO2
  obtain ⟨ao, n, cap, c19, ⟨g1, g2⟩, gl⟩ := (unhide HS2).rest
  unfold maxLen at g2
  have GL := hide gl
  clear gl
  have HM : Hid (Mean w2 w.heap.size { (pk0 5 false 0 false) with id := i, code := c, props := t } { (pa0 5 false 0 false) with id := i, code := c, props := x }) := ⟨⟨rfl, rfl, rfl, rfl, rfl, rfl, rfl, rfl, rfl, rfl, rfl, rfl⟩, unhide HO2, wills0 _ _, row0 _ _ _ _, row0 _ _ _ _, row0 _ _ _ _, row0 _ _ _ _, row0 _ _ _ _⟩
  have hbz : ((n : Int) == 0) = decide (n = 0) := by by_cases h : n = 0 <;> simp [h]
  go_wp2_with fail
  refine (must_any R _ st2 w0 _ (unhide HS2)).mono ?_
  rintro e wz ⟨rfl, hz, hxz⟩
  have HZ := hide hz
  have HXZ := hide hxz
  clear hz hxz
  go_wp2
  go_end0
  have hBY : Stp (body? (pa0 5 false 0 false)) st { (pa0 5 false 0 false) with id := i, code := c, props := x } st2 := by
    show Stp (bindR id? fun i => bindR (reason? 5) fun r => pureR { (pa0 5 false 0 false) with id := i, code := r.1, props := r.2 }) st { (pa0 5 false 0 false) with id := i, code := c, props := x } st2
    exact (unhide HST1).bind ((unhide HST2).bind (Stp.pure _ _))
  exact ⟨rfl, { (pk0 5 false 0 false) with id := i, code := c, props := t }, { (pa0 5 false 0 false) with id := i, code := c, props := x }, _, (unhide HP2).bx (unhide HXZ), (unhide HM).bx (unhide HXZ) hlt, packet_stp hBY (stp_end (unhide GL) _ (by first | exact hbz | rfl | simp)), unhide HZ, (unhide HX2).trans (unhide HXZ).any⟩
set_option maxHeartbeats 4000000 in
theorem packet_k6 (R : Nat) (st : Option (List Int)) (w0 w : World) (h : RS w0 w R st) (hp : Pk w R (pk0 6 false 0 false)) (hl : ∀ l, st = some l → l.length ≤ 65536) : Calls Tryz.prog 71 #[.pointer (some ⟨R, 0, none⟩)] w (PackPost w0 R (pa0 6 false 0 false) st w) := by
  have hlt := h.lt
  have c0 := hp.kind
  have HP := hide hp
  have HS := hide h
  have HL := hide hl
  clear hp h hl
  simp only [pk0] at c0
  go_enter Tryz.func71, Tryz.ntmps71
  go_wp2_with fail
  refine (id_any R st w0 w (unhide HS)).mono ?_
  rintro e w1 ⟨i, st1, rfl, -, hs1, h1, hx1⟩
  have hp1 := (unhide HP).bx hx1
  have c5 := hp1.id
  have f5 := hp1.id_f
  have HP1 := hide (hp1.set_id i)
  have HS1 := hide (h1.set 5 (.int .i64 i) (by decide))
  have HX1 := hide ((hx1.any).set 5 (.int .i64 i) trivial)
  have HST1 := hide hs1
  clear hp1 h1 hx1 hs1
  go_wp2_with fail
  refine (reason_any R { (pk0 6 false 0 false) with id := i } st1 w0 _ (unhide HS1) (unhide HP1) rfl rfl).mono ?_
  rintro e w2 ⟨rfl, c, t, x, st2, hp2, hO2, hs2, h2, hx2⟩
  have HP2 := hide hp2
  have HS2 := hide h2
  have HX2 := hide ((unhide HX1).trans hx2)
  have HST2 : Hid (Stp (reason? 6) st1 (c, x) st2) := hs2
  have HO2 : Hid (w2.ownsRow w.heap.size 120 4 t.val x.length (pcs x)) := owns_mono (unhide hO2) (unhide HX1).size
  clear hp2 h2 hx2 hs2 hO2
  obtain ⟨ao, n, cap, c19, ⟨g1, g2⟩, gl⟩ := (unhide HS2).rest
  unfold maxLen at g2
  have GL := hide gl
  clear gl
  have HM : Hid (Mean w2 w.heap.size { (pk0 6 false 0 false) with id := i, code := c, props := t } { (pa0 6 false 0 false) with id := i, code := c, props := x }) := ⟨⟨rfl, rfl, rfl, rfl, rfl, rfl, rfl, rfl, rfl, rfl, rfl, rfl⟩, unhide HO2, wills0 _ _, row0 _ _ _ _, row0 _ _ _ _, row0 _ _ _ _, row0 _ _ _ _, row0 _ _ _ _⟩
  have hbz : ((n : Int) == 0) = decide (n = 0) := by by_cases h : n = 0 <;> simp [h]
  go_wp2_with fail
  refine (must_any R _ st2 w0 _ (unhide HS2)).mono ?_
  rintro e wz ⟨rfl, hz, hxz⟩
  have HZ := hide hz
  have HXZ := hide hxz
  clear hz hxz
  go_wp2
  go_end0
  have hBY : Stp (body? (pa0 6 false 0 false)) st { (pa0 6 false 0 false) with id := i, code := c, props := x } st2 := by
    show Stp (bindR id? fun i => bindR (reason? 6) fun r => pureR { (pa0 6 false 0 false) with id := i, code := r.1, props := r.2 }) st { (pa0 6 false 0 false) with id := i, code := c, props := x } st2
    exact (unhide HST1).bind ((unhide HST2).bind (Stp.pure _ _))
  exact ⟨rfl, { (pk0 6 false 0 false) with id := i, code := c, props := t }, { (pa0 6 false 0 false) with id := i, code := c, props := x }, _, (unhide HP2).bx (unhide HXZ), (unhide HM).bx (unhide HXZ) hlt, packet_stp hBY (stp_end (unhide GL) _ (by first | exact hbz | rfl | simp)), unhide HZ, (unhide HX2).trans (unhide HXZ).any⟩
set_option maxHeartbeats 4000000 in
theorem packet_k7 (R : Nat) (st : Option (List Int)) (w0 w : World) (h : RS w0 w R st) (hp : Pk w R (pk0 7 false 0 false)) (hl : ∀ l, st = some l → l.length ≤ 65536) : Calls Tryz.prog 71 #[.pointer (some ⟨R, 0, none⟩)] w (PackPost w0 R (pa0 7 false 0 false) st w) := by
  have hlt := h.lt
  have c0 := hp.kind
  have HP := hide hp
  have HS := hide h
  have HL := hide hl
  clear hp h hl
  simp only [pk0] at c0
  go_enter Tryz.func71, Tryz.ntmps71
  go_wp2_with fail
  refine (id_any R st w0 w (unhide HS)).mono ?_
  rintro e w1 ⟨i, st1, rfl, -, hs1, h1, hx1⟩
  have hp1 := (unhide HP).bx hx1
  have c5 := hp1.id
  have f5 := hp1.id_f
  have HP1 := hide (hp1.set_id i)
  have HS1 := hide (h1.set 5 (.int .i64 i) (by decide))
  have HX1 := hide ((hx1.any).set 5 (.int .i64 i) trivial)
  have HST1 := hide hs1
  clear hp1 h1 hx1 hs1
  go_wp2_with fail
  refine (reason_any R { (pk0 7 false 0 false) with id := i } st1 w0 _ (unhide HS1) (unhide HP1) rfl rfl).mono ?_
  rintro e w2 ⟨rfl, c, t, x, st2, hp2, hO2, hs2, h2, hx2⟩
  have HP2 := hide hp2
  have HS2 := hide h2
  have HX2 := hide ((unhide HX1).trans hx2)
  have HST2 : Hid (Stp (reason? 7) st1 (c, x) st2) := hs2
  have HO2 : Hid (w2.ownsRow w.heap.size 120 4 t.val x.length (pcs x)) := owns_mono (unhide hO2) (unhide HX1).size
  clear hp2 h2 hx2 hs2 hO2
  obtain ⟨ao, n, cap, c19, ⟨g1, g2⟩, gl⟩ := (unhide HS2).rest
  unfold maxLen at g2
  have GL := hide gl
  clear gl
  have HM : Hid (Mean w2 w.heap.size { (pk0 7 false 0 false) with id := i, code := c, props := t } { (pa0 7 false 0 false) with id := i, code := c, props := x }) := ⟨⟨rfl, rfl, rfl, rfl, rfl, rfl, rfl, rfl, rfl, rfl, rfl, rfl⟩, unhide HO2, wills0 _ _, row0 _ _ _ _, row0 _ _ _ _, row0 _ _ _ _, row0 _ _ _ _, row0 _ _ _ _⟩
  have hbz : ((n : Int) == 0) = decide (n = 0) := by by_cases h : n = 0 <;> simp [h]
  go_wp2_with fail
  refine (must_any R _ st2 w0 _ (unhide HS2)).mono ?_
  rintro e wz ⟨rfl, hz, hxz⟩
  have HZ := hide hz
  have HXZ := hide hxz
  clear hz hxz
  go_wp2
  go_end0
  have hBY : Stp (body? (pa0 7 false 0 false)) st { (pa0 7 false 0 false) with id := i, code := c, props := x } st2 := by
    show Stp (bindR id? fun i => bindR (reason? 7) fun r => pureR { (pa0 7 false 0 false) with id := i, code := r.1, props := r.2 }) st { (pa0 7 false 0 false) with id := i, code := c, props := x } st2
    exact (unhide HST1).bind ((unhide HST2).bind (Stp.pure _ _))
  exact ⟨rfl, { (pk0 7 false 0 false) with id := i, code := c, props := t }, { (pa0 7 false 0 false) with id := i, code := c, props := x }, _, (unhide HP2).bx (unhide HXZ), (unhide HM).bx (unhide HXZ) hlt, packet_stp hBY (stp_end (unhide GL) _ (by first | exact hbz | rfl | simp)), unhide HZ, (unhide HX2).trans (unhide HXZ).any⟩
set_option maxHeartbeats 4000000 in
theorem packet_k14 (R : Nat) (st : Option (List Int)) (w0 w : World) (h : RS w0 w R st) (hp : Pk w R (pk0 14 false 0 false)) (hl : ∀ l, st = some l → l.length ≤ 65536) : Calls Tryz.prog 71 #[.pointer (some ⟨R, 0, none⟩)] w (PackPost w0 R (pa0 14 false 0 false) st w) := by
  have hlt := h.lt
  have c0 := hp.kind
  have HP := hide hp
  have HS := hide h
  have HL := hide hl
  clear hp h hl
  simp only [pk0] at c0
  go_enter Tryz.func71, Tryz.ntmps71
  have HP1 := HP
  have HS1 := HS
  have HX1 : Hid (BX R isAny w w) := BX.refl _ _ _
  go_wp2_with fail
  refine (reason_any R (pk0 14 false 0 false) st w0 _ (unhide HS1) (unhide HP1) rfl rfl).mono ?_
  rintro e w2 ⟨rfl, c, t, x, st2, hp2, hO2, hs2, h2, hx2⟩
  have HP2 := hide hp2
  have HS2 := hide h2
  have HX2 := hide ((unhide HX1).trans hx2)
  have HST2 : Hid (Stp (reason? 14) st (c, x) st2) := hs2
  have HO2 : Hid (w2.ownsRow w.heap.size 120 4 t.val x.length (pcs x)) := owns_mono (unhide hO2) (unhide HX1).size
  clear hp2 h2 hx2 hs2 hO2
  obtain ⟨ao, n, cap, c19, ⟨g1, g2⟩, gl⟩ := (unhide HS2).rest
  unfold maxLen at g2
  have GL := hide gl
  clear gl
  have HM : Hid (Mean w2 w.heap.size { (pk0 14 false 0 false) with code := c, props := t } { (pa0 14 false 0 false) with code := c, props := x }) := ⟨⟨rfl, rfl, rfl, rfl, rfl, rfl, rfl, rfl, rfl, rfl, rfl, rfl⟩, unhide HO2, wills0 _ _, row0 _ _ _ _, row0 _ _ _ _, row0 _ _ _ _, row0 _ _ _ _, row0 _ _ _ _⟩
  have hbz : ((n : Int) == 0) = decide (n = 0) := by by_cases h : n = 0 <;> simp [h]
  go_wp2_with fail
  refine (must_any R _ st2 w0 _ (unhide HS2)).mono ?_
  rintro e wz ⟨rfl, hz, hxz⟩
  have HZ := hide hz
  have HXZ := hide hxz
  clear hz hxz
  go_wp2
  go_end0
  have hBY : Stp (body? (pa0 14 false 0 false)) st { (pa0 14 false 0 false) with code := c, props := x } st2 := by
    show Stp (bindR (reason? 14) fun r => pureR { (pa0 14 false 0 false) with code := r.1, props := r.2 }) st { (pa0 14 false 0 false) with code := c, props := x } st2
    exact (unhide HST2).bind (Stp.pure _ _)
  exact ⟨rfl, { (pk0 14 false 0 false) with code := c, props := t }, { (pa0 14 false 0 false) with code := c, props := x }, _, (unhide HP2).bx (unhide HXZ), (unhide HM).bx (unhide HXZ) hlt, packet_stp hBY (stp_end (unhide GL) _ (by first | exact hbz | rfl | simp)), unhide HZ, (unhide HX2).trans (unhide HXZ).any⟩
set_option maxHeartbeats 4000000 in
theorem packet_k15 (R : Nat) (st : Option (List Int)) (w0 w : World) (h : RS w0 w R st) (hp : Pk w R (pk0 15 false 0 false)) (hl : ∀ l, st = some l → l.length ≤ 65536) : Calls Tryz.prog 71 #[.pointer (some ⟨R, 0, none⟩)] w (PackPost w0 R (pa0 15 false 0 false) st w) := by
  have hlt := h.lt
  have c0 := hp.kind
  have HP := hide hp
  have HS := hide h
  have HL := hide hl
  clear hp h hl
  simp only [pk0] at c0
  go_enter Tryz.func71, Tryz.ntmps71
  have HP1 := HP
  have HS1 := HS
  have HX1 : Hid (BX R isAny w w) := BX.refl _ _ _
  go_wp2_with fail
  refine (reason_any R (pk0 15 false 0 false) st w0 _ (unhide HS1) (unhide HP1) rfl rfl).mono ?_
  rintro e w2 ⟨rfl, c, t, x, st2, hp2, hO2, hs2, h2, hx2⟩
  have HP2 := hide hp2
  have HS2 := hide h2
  have HX2 := hide ((unhide HX1).trans hx2)
  have HST2 : Hid (Stp (reason? 15) st (c, x) st2) := hs2
  have HO2 : Hid (w2.ownsRow w.heap.size 120 4 t.val x.length (pcs x)) := owns_mono (unhide hO2) (unhide HX1).size
  clear hp2 h2 hx2 hs2 hO2
  obtain ⟨ao, n, cap, c19, ⟨g1, g2⟩, gl⟩ := (unhide HS2).rest
  unfold maxLen at g2
  have GL := hide gl
  clear gl
  have HM : Hid (Mean w2 w.heap.size { (pk0 15 false 0 false) with code := c, props := t } { (pa0 15 false 0 false) with code := c, props := x }) := ⟨⟨rfl, rfl, rfl, rfl, rfl, rfl, rfl, rfl, rfl, rfl, rfl, rfl⟩, unhide HO2, wills0 _ _, row0 _ _ _ _, row0 _ _ _ _, row0 _ _ _ _, row0 _ _ _ _, row0 _ _ _ _⟩
  have hbz : ((n : Int) == 0) = decide (n = 0) := by by_cases h : n = 0 <;> simp [h]
  go_wp2_with fail
  refine (must_any R _ st2 w0 _ (unhide HS2)).mono ?_
  rintro e wz ⟨rfl, hz, hxz⟩
  have HZ := hide hz
  have HXZ := hide hxz
  clear hz hxz
  go_wp2
  go_end0
  have hBY : Stp (body? (pa0 15 false 0 false)) st { (pa0 15 false 0 false) with code := c, props := x } st2 := by
    show Stp (bindR (reason? 15) fun r => pureR { (pa0 15 false 0 false) with code := r.1, props := r.2 }) st { (pa0 15 false 0 false) with code := c, props := x } st2
    exact (unhide HST2).bind (Stp.pure _ _)
  exact ⟨rfl, { (pk0 15 false 0 false) with code := c, props := t }, { (pa0 15 false 0 false) with code := c, props := x }, _, (unhide HP2).bx (unhide HXZ), (unhide HM).bx (unhide HXZ) hlt, packet_stp hBY (stp_end (unhide GL) _ (by first | exact hbz | rfl | simp)), unhide HZ, (unhide HX2).trans (unhide HXZ).any⟩
end Go.Proofs.YtoocdfgjkeheaaaGreatDoor.K
/- Proved here: packet's reader: packet, kind by kind. Helper contracts. -/
namespace Go.Proofs.YtoocdfgjkeheaaaGreatDoor.K
open Go.RowKit
set_option maxRecDepth 100000

set_option maxHeartbeats 4000000 in
theorem packet_k3 (R : Nat) (dup : Bool) (qos : Int) (retain : Bool) (st : Option (List Int)) (w0 w : World) (h : RS w0 w R st) (hp : Pk w R (pk0 3 dup qos retain)) (hl : ∀ l, st = some l → l.length ≤ 65536) : Calls Tryz.prog 71 #[.pointer (some ⟨R, 0, none⟩)] w (PackPost w0 R (pa0 3 dup qos retain) st w) := by
  have hlt := h.lt
  have c0 := hp.kind
  have HP := hide hp
  have HS := hide h
  have HL := hide hl
  clear hp h hl
  simp only [pk0] at c0
  go_enter Tryz.func71, Tryz.ntmps71
  go_wp2_with fail
  refine (publish_any R (pk0 3 dup qos retain) st w0 w (unhide HS) (unhide HP) rfl rfl).mono ?_
  rintro e w1 ⟨rfl, t, i, s, x, y, st1, hp1, hO1, hs1, h1, hx1⟩
  have HP1 := hide hp1
  have HS1 := hide h1
  have HX1 := hide hx1
  have HST1 : Hid (Stp (publish? qos) st (t, i, x, y) st1) := hs1
  clear hp1 h1 hx1 hs1
  obtain ⟨ao, n, cap, c19, ⟨g1, g2⟩, gl⟩ := (unhide HS1).rest
  unfold maxLen at g2
  have GL := hide gl
  clear gl
  have HM : Hid (Mean w1 w.heap.size { (pk0 3 dup qos retain) with topic := t, id := i, props := s, payload := y } { (pa0 3 dup qos retain) with topic := t, id := i, props := x, payload := y }) := ⟨⟨rfl, rfl, rfl, rfl, rfl, rfl, rfl, rfl, rfl, rfl, rfl, rfl⟩, unhide hO1, wills0 _ _, row0 _ _ _ _, row0 _ _ _ _, row0 _ _ _ _, row0 _ _ _ _, row0 _ _ _ _⟩
  have hbz : ((n : Int) == 0) = decide (n = 0) := by by_cases h : n = 0 <;> simp [h]
  go_wp2_with fail
  refine (must_any R _ st1 w0 _ (unhide HS1)).mono ?_
  rintro e wz ⟨rfl, hz, hxz⟩
  have HZ := hide hz
  have HXZ := hide hxz
  clear hz hxz
  go_wp2
  go_end0
  have hBY : Stp (body? (pa0 3 dup qos retain)) st { (pa0 3 dup qos retain) with topic := t, id := i, props := x, payload := y } st1 := by
    show Stp (bindR (publish? qos) fun r => pureR { (pa0 3 dup qos retain) with topic := r.1, id := r.2.1, props := r.2.2.1, payload := r.2.2.2 }) st { (pa0 3 dup qos retain) with topic := t, id := i, props := x, payload := y } st1
    exact (unhide HST1).bind (Stp.pure _ _)
  exact ⟨rfl, { (pk0 3 dup qos retain) with topic := t, id := i, props := s, payload := y }, { (pa0 3 dup qos retain) with topic := t, id := i, props := x, payload := y }, _, (unhide HP1).bx (unhide HXZ), (unhide HM).bx (unhide HXZ) hlt, packet_stp hBY (stp_end (unhide GL) _ (by first | exact hbz | rfl | simp)), unhide HZ, (unhide HX1).trans (unhide HXZ).any⟩
set_option maxHeartbeats 4000000 in
theorem packet_k1 (R : Nat) (st : Option (List Int)) (w0 w : World) (h : RS w0 w R st) (hp : Pk w R (pk0 1 false 0 false)) (hl : ∀ l, st = some l → l.length ≤ 65536) : Calls Tryz.prog 71 #[.pointer (some ⟨R, 0, none⟩)] w (PackPost w0 R (pa0 1 false 0 false) st w) := by
  have hlt := h.lt
  have c0 := hp.kind
  have HP := hide hp
  have HS := hide h
  have HL := hide hl
  clear hp h hl
  simp only [pk0] at c0
  go_enter Tryz.func71, Tryz.ntmps71
  go_wp2_with fail
  refine (connect_any R (pk0 1 false 0 false) st w0 w (unhide HS) (unhide HP) rfl rfl rfl rfl).mono ?_
  rintro e w1 ⟨rfl, n0, V, U, Q, N, tp, st1, hp1, hO1, hN, hW, hU, hQ, hs1, h1, hx1⟩
  have HP1 := hide hp1
  have HS1 := hide h1
  have HX1 := hide hx1
  have HST1 := hide hs1
  clear hp1 h1 hx1 hs1
  obtain ⟨ao, n, cap, c19, ⟨g1, g2⟩, gl⟩ := (unhide HS1).rest
  unfold maxLen at g2
  have GL := hide gl
  clear gl
  have HM : Hid (Mean w1 w.heap.size { (pk0 1 false 0 false) with clean := btest n0.x 2, wills := isW V (btest n0.x 4), user := isW U (btest n0.x 128), pass := isW Q (btest n0.x 64), keep := n0.keep, props := tp, client := n0.client } (ofCn (pa0 1 false 0 false) n0)) := ⟨⟨rfl, rfl, rfl, rfl, rfl, rfl, rfl, rfl, rfl, rfl, rfl, rfl⟩, unhide hO1, row_will (unhide hW) hN, row_str (unhide hU), row_str (unhide hQ), row0 _ _ _ _, row0 _ _ _ _, row0 _ _ _ _⟩
  have hbz : ((n : Int) == 0) = decide (n = 0) := by by_cases h : n = 0 <;> simp [h]
  go_wp2_with fail
  refine (must_any R _ st1 w0 _ (unhide HS1)).mono ?_
  rintro e wz ⟨rfl, hz, hxz⟩
  have HZ := hide hz
  have HXZ := hide hxz
  clear hz hxz
  go_wp2
  go_end0
  have hBY : Stp (body? (pa0 1 false 0 false)) st (ofCn (pa0 1 false 0 false) n0) st1 := by
    show Stp (bindR connect? fun n => pureR (ofCn (pa0 1 false 0 false) n)) st (ofCn (pa0 1 false 0 false) n0) st1
    exact (unhide HST1).bind (Stp.pure _ _)
  exact ⟨rfl, { (pk0 1 false 0 false) with clean := btest n0.x 2, wills := isW V (btest n0.x 4), user := isW U (btest n0.x 128), pass := isW Q (btest n0.x 64), keep := n0.keep, props := tp, client := n0.client }, (ofCn (pa0 1 false 0 false) n0), _, (unhide HP1).bx (unhide HXZ), (unhide HM).bx (unhide HXZ) hlt, packet_stp hBY (stp_end (unhide GL) _ (by first | exact hbz | rfl | simp)), unhide HZ, (unhide HX1).trans (unhide HXZ).any⟩
set_option maxHeartbeats 4000000 in
theorem packet_k2 (R : Nat) (st : Option (List Int)) (w0 w : World) (h : RS w0 w R st) (hp : Pk w R (pk0 2 false 0 false)) (hl : ∀ l, st = some l → l.length ≤ 65536) : Calls Tryz.prog 71 #[.pointer (some ⟨R, 0, none⟩)] w (PackPost w0 R (pa0 2 false 0 false) st w) := by
  have hlt := h.lt
  have c0 := hp.kind
  have HP := hide hp
  have HS := hide h
  have HL := hide hl
  clear hp h hl
  simp only [pk0] at c0
  go_enter Tryz.func71, Tryz.ntmps71
  go_wp2_with fail
  refine (one_any R st w0 w (unhide HS)).mono ?_
  rintro e w1 ⟨f, st1, rfl, hf, hs1, h1, hx1⟩
  have HP1 := hide ((unhide HP).bx hx1)
  have HS1 := hide h1
  have HX1 := hide hx1
  have HST1 := hide hs1
  clear h1 hx1 hs1
  go_wp2_with fail
  refine (must_any R _ st1 w0 w1 (unhide HS1)).mono ?_
  rintro e w2 ⟨rfl, h2, hx2⟩
  have hp2 := (unhide HP1).bx hx2
  have c15 := hp2.session
  have f15 := hp2.session_f
  have HP2 := hide (hp2.set_session (f == 1))
  have HS2 := hide (h2.set 15 (.bool (f == 1)) (by decide))
  have HX2 := hide ((((unhide HX1).trans hx2).any).set 15 (.bool (f == 1)) trivial)
  clear hp2 h2 hx2
  go_wp2_with fail
  refine (one_any R _ w0 _ (unhide HS2)).mono ?_
  rintro e w3 ⟨c, st3, rfl, -, hs3, h3, hx3⟩
  have hp3 := (unhide HP2).bx hx3
  have c14 := hp3.code
  have f14 := hp3.code_f
  have d0 : w3.cell? ⟨R, 0, none⟩ = some (.int .i64 2) := hp3.kind
  have HP3 := hide (hp3.set_code c)
  have HS3 := hide (h3.set 14 (.int .i64 c) (by decide))
  have HX3 := hide (((unhide HX2).trans hx3.any).set 14 (.int .i64 c) trivial)
  have HST3 := hide hs3
  clear hp3 h3 hx3 hs3 c15 f15
  go_wp2_with fail
  refine (props_any R 2 st3 w0 _ (unhide HS3)).mono ?_
  rintro e w4 ⟨t, x, st4, rfl, hO4, hs4, h4, hx4⟩
  have hp4 := (unhide HP3).bx hx4
  have c7 := hp4.props
  have f7 := hp4.props_f
  have HP4 := hide (hp4.set_props t)
  have HS4 := hide (h4.set 7 t.val (by decide))
  have HX4 := hide (((unhide HX3).trans hx4.any).set 7 t.val trivial)
  have HST4 := hide hs4
  have HO4 : Hid ((w4.setCell ⟨R, 7, none⟩ t.val).ownsRow w.heap.size 120 4 t.val x.length (pcs x)) := owns_bx (owns_mono (unhide hO4) (unhide HX3).size) ((BX.refl R isAny w4).set 7 _ trivial) hlt
  clear hp4 h4 hx4 hs4 hO4 c14 f14 d0
  obtain ⟨ao, n, cap, c19, ⟨g1, g2⟩, gl⟩ := (unhide HS4).rest
  unfold maxLen at g2
  have GL := hide gl
  clear gl
  have HM : Hid (Mean (w4.setCell ⟨R, 7, none⟩ t.val) w.heap.size { (pk0 2 false 0 false) with session := f == 1, code := c, props := t } { (pa0 2 false 0 false) with session := f == 1, code := c, props := x }) := ⟨⟨rfl, rfl, rfl, rfl, rfl, rfl, rfl, rfl, rfl, rfl, rfl, rfl⟩, unhide HO4, wills0 _ _, row0 _ _ _ _, row0 _ _ _ _, row0 _ _ _ _, row0 _ _ _ _, row0 _ _ _ _⟩
  have hbz : ((n : Int) == 0) = decide (n = 0) := by by_cases h : n = 0 <;> simp [h]
  go_wp2_with fail
  refine (must_any R _ st4 w0 _ (unhide HS4)).mono ?_
  rintro e wz ⟨rfl, hz, hxz⟩
  have HZ := hide hz
  have HXZ := hide hxz
  clear hz hxz
  go_wp2
  go_end0
  have hBY : Stp (body? (pa0 2 false 0 false)) st { (pa0 2 false 0 false) with session := f == 1, code := c, props := x } st4 := by
    show Stp (bindR one? fun f => bindR (mustR (decide (f ≤ 1))) fun _ => bindR one? fun c => bindR (props? 2) fun x => pureR { (pa0 2 false 0 false) with session := f == 1, code := c, props := x }) st { (pa0 2 false 0 false) with session := f == 1, code := c, props := x } st4
    exact (unhide HST1).bind ((Stp.must _ st1).bind ((unhide HST3).bind ((unhide HST4).bind (Stp.pure _ _))))
  exact ⟨rfl, { (pk0 2 false 0 false) with session := f == 1, code := c, props := t }, { (pa0 2 false 0 false) with session := f == 1, code := c, props := x }, _, (unhide HP4).bx (unhide HXZ), (unhide HM).bx (unhide HXZ) hlt, packet_stp hBY (stp_end (unhide GL) _ (by first | exact hbz | rfl | simp)), unhide HZ, (unhide HX4).trans (unhide HXZ).any⟩
end Go.Proofs.YtoocdfgjkeheaaaGreatDoor.K
/- Proved here: packet's reader: packet, kind by kind. Helper contracts. -/
namespace Go.Proofs.YtoocdfgjkeheaaaGreatDoor.K
open Go.RowKit
set_option maxRecDepth 100000

set_option maxHeartbeats 4000000 in
theorem packet_k8 (R : Nat) (st : Option (List Int)) (w0 w : World) (h : RS w0 w R st) (hp : Pk w R (pk0 8 false 0 false)) (hl : ∀ l, st = some l → l.length ≤ 65536) : Calls Tryz.prog 71 #[.pointer (some ⟨R, 0, none⟩)] w (PackPost w0 R (pa0 8 false 0 false) st w) := by
  have hlt := h.lt
  have c0 := hp.kind
  have HP := hide hp
  have HS := hide h
  have HL := hide hl
  clear hp h hl
  simp only [pk0] at c0
  go_enter Tryz.func71, Tryz.ntmps71
  go_wp2_with fail
  refine (id_any R st w0 w (unhide HS)).mono ?_
  rintro e w1 ⟨i, st1, rfl, -, hs1, h1, hx1⟩
  have hp1 := (unhide HP).bx hx1
  have c5 := hp1.id
  have f5 := hp1.id_f
  have d0 : w1.cell? ⟨R, 0, none⟩ = some (.int .i64 8) := hp1.kind
  have HP1 := hide (hp1.set_id i)
  have HS1 := hide (h1.set 5 (.int .i64 i) (by decide))
  have HX1 := hide ((hx1.any).set 5 (.int .i64 i) trivial)
  have HST1 := hide hs1
  clear hp1 h1 hx1 hs1 c0
  go_wp2_with fail
  refine (props_any R 8 st1 w0 _ (unhide HS1)).mono ?_
  rintro e w2 ⟨t, x, st2, rfl, hO2, hs2, h2, hx2⟩
  have hp2 := (unhide HP1).bx hx2
  have c7 := hp2.props
  have f7 := hp2.props_f
  have HP2 := hide (hp2.set_props t)
  have HS2 := hide (h2.set 7 t.val (by decide))
  have HX2 := hide (((unhide HX1).trans hx2.any).set 7 t.val trivial)
  have HST2 := hide hs2
  have HO2 : Hid ((w2.setCell ⟨R, 7, none⟩ t.val).ownsRow w.heap.size 120 4 t.val x.length (pcs x)) := owns_bx (owns_mono (unhide hO2) (unhide HX1).size) ((BX.refl R isAny w2).set 7 _ trivial) hlt
  have HL2 : Hid (∀ l, st2 = some l → l.length ≤ 65536) := fun l hl => by
    subst hl
    exact stp_le2 id?_le (props?_le _) (unhide HST1) hs2 (unhide HL)
  clear hp2 h2 hx2 hs2 hO2 c5 f5 d0
  go_wp2_with fail
  refine (list_subs R { (pk0 8 false 0 false) with id := i, props := t } st2 w0 _ (unhide HS2) (unhide HP2) rfl (unhide HL2) rfl).mono ?_
  rintro e w3 ⟨rfl, td, d, st3, hp3, hO3, hs3, h3, hx3⟩
  have HP3 := hide hp3
  have HS3 := hide h3
  have HX3 := hide ((unhide HX2).trans hx3)
  have HST3 := hide hs3
  have HO3 := hide (owns_bx (unhide HO2) hx3 hlt)
  have HD3 := hide (owns_mono (unhide hO3) (unhide HX2).size)
  clear hp3 h3 hx3 hs3 hO3 c7 f7
  obtain ⟨ao, n, cap, c19, ⟨g1, g2⟩, gl⟩ := (unhide HS3).rest
  unfold maxLen at g2
  have GL := hide gl
  clear gl
  have HM : Hid (Mean w3 w.heap.size { (pk0 8 false 0 false) with id := i, props := t, subs := td } { (pa0 8 false 0 false) with id := i, props := x, subs := d }) := ⟨⟨rfl, rfl, rfl, rfl, rfl, rfl, rfl, rfl, rfl, rfl, rfl, rfl⟩, unhide HO3, wills0 _ _, row0 _ _ _ _, row0 _ _ _ _, unhide HD3, row0 _ _ _ _, row0 _ _ _ _⟩
  have hbz : ((n : Int) == 0) = decide (n = 0) := by by_cases h : n = 0 <;> simp [h]
  go_wp2_with fail
  refine (must_any R _ st3 w0 _ (unhide HS3)).mono ?_
  rintro e wz ⟨rfl, hz, hxz⟩
  have HZ := hide hz
  have HXZ := hide hxz
  clear hz hxz
  go_wp2
  go_end0
  have hBY : Stp (body? (pa0 8 false 0 false)) st { (pa0 8 false 0 false) with id := i, props := x, subs := d } st3 := by
    show Stp (bindR id? fun i => bindR (props? 8) fun x => bindR (list? sub?) fun d => pureR { (pa0 8 false 0 false) with id := i, props := x, subs := d }) st { (pa0 8 false 0 false) with id := i, props := x, subs := d } st3
    exact (unhide HST1).bind ((unhide HST2).bind ((unhide HST3).bind (Stp.pure _ _)))
  exact ⟨rfl, { (pk0 8 false 0 false) with id := i, props := t, subs := td }, { (pa0 8 false 0 false) with id := i, props := x, subs := d }, _, (unhide HP3).bx (unhide HXZ), (unhide HM).bx (unhide HXZ) hlt, packet_stp hBY (stp_end (unhide GL) _ (by first | exact hbz | rfl | simp)), unhide HZ, (unhide HX3).trans (unhide HXZ).any⟩
set_option maxHeartbeats 4000000 in
theorem packet_k10 (R : Nat) (st : Option (List Int)) (w0 w : World) (h : RS w0 w R st) (hp : Pk w R (pk0 10 false 0 false)) (hl : ∀ l, st = some l → l.length ≤ 65536) : Calls Tryz.prog 71 #[.pointer (some ⟨R, 0, none⟩)] w (PackPost w0 R (pa0 10 false 0 false) st w) := by
  have hlt := h.lt
  have c0 := hp.kind
  have HP := hide hp
  have HS := hide h
  have HL := hide hl
  clear hp h hl
  simp only [pk0] at c0
  go_enter Tryz.func71, Tryz.ntmps71
  go_wp2_with fail
  refine (id_any R st w0 w (unhide HS)).mono ?_
  rintro e w1 ⟨i, st1, rfl, -, hs1, h1, hx1⟩
  have hp1 := (unhide HP).bx hx1
  have c5 := hp1.id
  have f5 := hp1.id_f
  have d0 : w1.cell? ⟨R, 0, none⟩ = some (.int .i64 10) := hp1.kind
  have HP1 := hide (hp1.set_id i)
  have HS1 := hide (h1.set 5 (.int .i64 i) (by decide))
  have HX1 := hide ((hx1.any).set 5 (.int .i64 i) trivial)
  have HST1 := hide hs1
  clear hp1 h1 hx1 hs1 c0
  go_wp2_with fail
  refine (props_any R 10 st1 w0 _ (unhide HS1)).mono ?_
  rintro e w2 ⟨t, x, st2, rfl, hO2, hs2, h2, hx2⟩
  have hp2 := (unhide HP1).bx hx2
  have c7 := hp2.props
  have f7 := hp2.props_f
  have HP2 := hide (hp2.set_props t)
  have HS2 := hide (h2.set 7 t.val (by decide))
  have HX2 := hide (((unhide HX1).trans hx2.any).set 7 t.val trivial)
  have HST2 := hide hs2
  have HO2 : Hid ((w2.setCell ⟨R, 7, none⟩ t.val).ownsRow w.heap.size 120 4 t.val x.length (pcs x)) := owns_bx (owns_mono (unhide hO2) (unhide HX1).size) ((BX.refl R isAny w2).set 7 _ trivial) hlt
  have HL2 : Hid (∀ l, st2 = some l → l.length ≤ 65536) := fun l hl => by
    subst hl
    exact stp_le2 id?_le (props?_le _) (unhide HST1) hs2 (unhide HL)
  clear hp2 h2 hx2 hs2 hO2 c5 f5 d0
  go_wp2_with fail
  refine (list_filters R { (pk0 10 false 0 false) with id := i, props := t } st2 w0 _ (unhide HS2) (unhide HP2) rfl (unhide HL2) rfl).mono ?_
  rintro e w3 ⟨rfl, td, d, st3, hp3, hO3, hs3, h3, hx3⟩
  have HP3 := hide hp3
  have HS3 := hide h3
  have HX3 := hide ((unhide HX2).trans hx3)
  have HST3 := hide hs3
  have HO3 := hide (owns_bx (unhide HO2) hx3 hlt)
  have HD3 := hide (owns_mono (unhide hO3) (unhide HX2).size)
  clear hp3 h3 hx3 hs3 hO3 c7 f7
  obtain ⟨ao, n, cap, c19, ⟨g1, g2⟩, gl⟩ := (unhide HS3).rest
  unfold maxLen at g2
  have GL := hide gl
  clear gl
  have HM : Hid (Mean w3 w.heap.size { (pk0 10 false 0 false) with id := i, props := t, filters := td } { (pa0 10 false 0 false) with id := i, props := x, filters := d }) := ⟨⟨rfl, rfl, rfl, rfl, rfl, rfl, rfl, rfl, rfl, rfl, rfl, rfl⟩, unhide HO3, wills0 _ _, row0 _ _ _ _, row0 _ _ _ _, row0 _ _ _ _, unhide HD3, row0 _ _ _ _⟩
  have hbz : ((n : Int) == 0) = decide (n = 0) := by by_cases h : n = 0 <;> simp [h]
  go_wp2_with fail
  refine (must_any R _ st3 w0 _ (unhide HS3)).mono ?_
  rintro e wz ⟨rfl, hz, hxz⟩
  have HZ := hide hz
  have HXZ := hide hxz
  clear hz hxz
  go_wp2
  go_end0
  have hBY : Stp (body? (pa0 10 false 0 false)) st { (pa0 10 false 0 false) with id := i, props := x, filters := d } st3 := by
    show Stp (bindR id? fun i => bindR (props? 10) fun x => bindR (list? text?) fun d => pureR { (pa0 10 false 0 false) with id := i, props := x, filters := d }) st { (pa0 10 false 0 false) with id := i, props := x, filters := d } st3
    exact (unhide HST1).bind ((unhide HST2).bind ((unhide HST3).bind (Stp.pure _ _)))
  exact ⟨rfl, { (pk0 10 false 0 false) with id := i, props := t, filters := td }, { (pa0 10 false 0 false) with id := i, props := x, filters := d }, _, (unhide HP3).bx (unhide HXZ), (unhide HM).bx (unhide HXZ) hlt, packet_stp hBY (stp_end (unhide GL) _ (by first | exact hbz | rfl | simp)), unhide HZ, (unhide HX3).trans (unhide HXZ).any⟩
set_option maxHeartbeats 4000000 in
theorem packet_k9 (R : Nat) (st : Option (List Int)) (w0 w : World) (h : RS w0 w R st) (hp : Pk w R (pk0 9 false 0 false)) (hl : ∀ l, st = some l → l.length ≤ 65536) : Calls Tryz.prog 71 #[.pointer (some ⟨R, 0, none⟩)] w (PackPost w0 R (pa0 9 false 0 false) st w) := by
  have hlt := h.lt
  have c0 := hp.kind
  have HP := hide hp
  have HS := hide h
  have HL := hide hl
  clear hp h hl
  simp only [pk0] at c0
  go_enter Tryz.func71, Tryz.ntmps71
  go_wp2_with fail
  refine (id_any R st w0 w (unhide HS)).mono ?_
  rintro e w1 ⟨i, st1, rfl, -, hs1, h1, hx1⟩
  have hp1 := (unhide HP).bx hx1
  have c5 := hp1.id
  have f5 := hp1.id_f
  have d0 : w1.cell? ⟨R, 0, none⟩ = some (.int .i64 9) := hp1.kind
  have HP1 := hide (hp1.set_id i)
  have HS1 := hide (h1.set 5 (.int .i64 i) (by decide))
  have HX1 := hide ((hx1.any).set 5 (.int .i64 i) trivial)
  have HST1 := hide hs1
  clear hp1 h1 hx1 hs1 c0
  go_wp2_with fail
  refine (props_any R 9 st1 w0 _ (unhide HS1)).mono ?_
  rintro e w2 ⟨t, x, st2, rfl, hO2, hs2, h2, hx2⟩
  have hp2 := (unhide HP1).bx hx2
  have c7 := hp2.props
  have f7 := hp2.props_f
  have HP2 := hide (hp2.set_props t)
  have HS2 := hide (h2.set 7 t.val (by decide))
  have HX2 := hide (((unhide HX1).trans hx2.any).set 7 t.val trivial)
  have HST2 := hide hs2
  have HO2 : Hid ((w2.setCell ⟨R, 7, none⟩ t.val).ownsRow w.heap.size 120 4 t.val x.length (pcs x)) := owns_bx (owns_mono (unhide hO2) (unhide HX1).size) ((BX.refl R isAny w2).set 7 _ trivial) hlt
  have HL2 : Hid (∀ l, st2 = some l → l.length ≤ 65536) := fun l hl => by
    subst hl
    exact stp_le2 id?_le (props?_le _) (unhide HST1) hs2 (unhide HL)
  clear hp2 h2 hx2 hs2 hO2 c5 f5 d0
  go_wp2_with fail
  refine (list_codes R { (pk0 9 false 0 false) with id := i, props := t } st2 w0 _ (unhide HS2) (unhide HP2) rfl (unhide HL2) (show (9 : Int) ≠ 8 by decide) (show (9 : Int) ≠ 10 by decide)).mono ?_
  rintro e w3 ⟨rfl, td, d, st3, hp3, hO3, hs3, h3, hx3⟩
  have HP3 := hide hp3
  have HS3 := hide h3
  have HX3 := hide ((unhide HX2).trans hx3)
  have HST3 := hide hs3
  have HO3 := hide (owns_bx (unhide HO2) hx3 hlt)
  have HD3 := hide (owns_mono (unhide hO3) (unhide HX2).size)
  clear hp3 h3 hx3 hs3 hO3 c7 f7
  obtain ⟨ao, n, cap, c19, ⟨g1, g2⟩, gl⟩ := (unhide HS3).rest
  unfold maxLen at g2
  have GL := hide gl
  clear gl
  have HM : Hid (Mean w3 w.heap.size { (pk0 9 false 0 false) with id := i, props := t, codes := td } { (pa0 9 false 0 false) with id := i, props := x, codes := d }) := ⟨⟨rfl, rfl, rfl, rfl, rfl, rfl, rfl, rfl, rfl, rfl, rfl, rfl⟩, unhide HO3, wills0 _ _, row0 _ _ _ _, row0 _ _ _ _, row0 _ _ _ _, row0 _ _ _ _, unhide HD3⟩
  have hbz : ((n : Int) == 0) = decide (n = 0) := by by_cases h : n = 0 <;> simp [h]
  go_wp2_with fail
  refine (must_any R _ st3 w0 _ (unhide HS3)).mono ?_
  rintro e wz ⟨rfl, hz, hxz⟩
  have HZ := hide hz
  have HXZ := hide hxz
  clear hz hxz
  go_wp2
  go_end0
  have hBY : Stp (body? (pa0 9 false 0 false)) st { (pa0 9 false 0 false) with id := i, props := x, codes := d } st3 := by
    show Stp (bindR id? fun i => bindR (props? 9) fun x => bindR (list? one?) fun d => pureR { (pa0 9 false 0 false) with id := i, props := x, codes := d }) st { (pa0 9 false 0 false) with id := i, props := x, codes := d } st3
    exact (unhide HST1).bind ((unhide HST2).bind ((unhide HST3).bind (Stp.pure _ _)))
  exact ⟨rfl, { (pk0 9 false 0 false) with id := i, props := t, codes := td }, { (pa0 9 false 0 false) with id := i, props := x, codes := d }, _, (unhide HP3).bx (unhide HXZ), (unhide HM).bx (unhide HXZ) hlt, packet_stp hBY (stp_end (unhide GL) _ (by first | exact hbz | rfl | simp)), unhide HZ, (unhide HX3).trans (unhide HXZ).any⟩
set_option maxHeartbeats 4000000 in
theorem packet_k11 (R : Nat) (st : Option (List Int)) (w0 w : World) (h : RS w0 w R st) (hp : Pk w R (pk0 11 false 0 false)) (hl : ∀ l, st = some l → l.length ≤ 65536) : Calls Tryz.prog 71 #[.pointer (some ⟨R, 0, none⟩)] w (PackPost w0 R (pa0 11 false 0 false) st w) := by
  have hlt := h.lt
  have c0 := hp.kind
  have HP := hide hp
  have HS := hide h
  have HL := hide hl
  clear hp h hl
  simp only [pk0] at c0
  go_enter Tryz.func71, Tryz.ntmps71
  go_wp2_with fail
  refine (id_any R st w0 w (unhide HS)).mono ?_
  rintro e w1 ⟨i, st1, rfl, -, hs1, h1, hx1⟩
  have hp1 := (unhide HP).bx hx1
  have c5 := hp1.id
  have f5 := hp1.id_f
  have d0 : w1.cell? ⟨R, 0, none⟩ = some (.int .i64 11) := hp1.kind
  have HP1 := hide (hp1.set_id i)
  have HS1 := hide (h1.set 5 (.int .i64 i) (by decide))
  have HX1 := hide ((hx1.any).set 5 (.int .i64 i) trivial)
  have HST1 := hide hs1
  clear hp1 h1 hx1 hs1 c0
  go_wp2_with fail
  refine (props_any R 11 st1 w0 _ (unhide HS1)).mono ?_
  rintro e w2 ⟨t, x, st2, rfl, hO2, hs2, h2, hx2⟩
  have hp2 := (unhide HP1).bx hx2
  have c7 := hp2.props
  have f7 := hp2.props_f
  have HP2 := hide (hp2.set_props t)
  have HS2 := hide (h2.set 7 t.val (by decide))
  have HX2 := hide (((unhide HX1).trans hx2.any).set 7 t.val trivial)
  have HST2 := hide hs2
  have HO2 : Hid ((w2.setCell ⟨R, 7, none⟩ t.val).ownsRow w.heap.size 120 4 t.val x.length (pcs x)) := owns_bx (owns_mono (unhide hO2) (unhide HX1).size) ((BX.refl R isAny w2).set 7 _ trivial) hlt
  have HL2 : Hid (∀ l, st2 = some l → l.length ≤ 65536) := fun l hl => by
    subst hl
    exact stp_le2 id?_le (props?_le _) (unhide HST1) hs2 (unhide HL)
  clear hp2 h2 hx2 hs2 hO2 c5 f5 d0
  go_wp2_with fail
  refine (list_codes R { (pk0 11 false 0 false) with id := i, props := t } st2 w0 _ (unhide HS2) (unhide HP2) rfl (unhide HL2) (show (11 : Int) ≠ 8 by decide) (show (11 : Int) ≠ 10 by decide)).mono ?_
  rintro e w3 ⟨rfl, td, d, st3, hp3, hO3, hs3, h3, hx3⟩
  have HP3 := hide hp3
  have HS3 := hide h3
  have HX3 := hide ((unhide HX2).trans hx3)
  have HST3 := hide hs3
  have HO3 := hide (owns_bx (unhide HO2) hx3 hlt)
  have HD3 := hide (owns_mono (unhide hO3) (unhide HX2).size)
  clear hp3 h3 hx3 hs3 hO3 c7 f7
  obtain ⟨ao, n, cap, c19, ⟨g1, g2⟩, gl⟩ := (unhide HS3).rest
  unfold maxLen at g2
  have GL := hide gl
  clear gl
  have HM : Hid (Mean w3 w.heap.size { (pk0 11 false 0 false) with id := i, props := t, codes := td } { (pa0 11 false 0 false) with id := i, props := x, codes := d }) := ⟨⟨rfl, rfl, rfl, rfl, rfl, rfl, rfl, rfl, rfl, rfl, rfl, rfl⟩, unhide HO3, wills0 _ _, row0 _ _ _ _, row0 _ _ _ _, row0 _ _ _ _, row0 _ _ _ _, unhide HD3⟩
  have hbz : ((n : Int) == 0) = decide (n = 0) := by by_cases h : n = 0 <;> simp [h]
  go_wp2_with fail
  refine (must_any R _ st3 w0 _ (unhide HS3)).mono ?_
  rintro e wz ⟨rfl, hz, hxz⟩
  have HZ := hide hz
  have HXZ := hide hxz
  clear hz hxz
  go_wp2
  go_end0
  have hBY : Stp (body? (pa0 11 false 0 false)) st { (pa0 11 false 0 false) with id := i, props := x, codes := d } st3 := by
    show Stp (bindR id? fun i => bindR (props? 11) fun x => bindR (list? one?) fun d => pureR { (pa0 11 false 0 false) with id := i, props := x, codes := d }) st { (pa0 11 false 0 false) with id := i, props := x, codes := d } st3
    exact (unhide HST1).bind ((unhide HST2).bind ((unhide HST3).bind (Stp.pure _ _)))
  exact ⟨rfl, { (pk0 11 false 0 false) with id := i, props := t, codes := td }, { (pa0 11 false 0 false) with id := i, props := x, codes := d }, _, (unhide HP3).bx (unhide HXZ), (unhide HM).bx (unhide HXZ) hlt, packet_stp hBY (stp_end (unhide GL) _ (by first | exact hbz | rfl | simp)), unhide HZ, (unhide HX3).trans (unhide HXZ).any⟩
end Go.Proofs.YtoocdfgjkeheaaaGreatDoor.K
