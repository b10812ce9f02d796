/- Proved here: helpers, one text behind the other. -/
import Derived.Test.YtgdfnopnmdjklaaGreatDoorM6
import Derived.Deep.WholeRow
import Derived.Test.YtgdfnopnmdjklaaGreatDoorProg
import Derived.Test.YtgdfnopnmdjklaaGreatDoorM1
import Derived.Test.YtgdfnopnmdjklaaGreatDoorM2
import Derived.Test.YtgdfnopnmdjklaaGreatDoorM3
import Derived.Test.YtgdfnopnmdjklaaGreatDoorM5
/- Proved here: packet.Decode tells the packet with whose bytes bytes begin, and how many, or an error's number. Helper contracts. -/
namespace Go.Proofs.YtgdfnopnmdjklaaGreatDoor.K
open Go.RowKit
set_option maxRecDepth 100000

abbrev pkz : Pkv := pk0 0 false 0 false
/-- the packet that bytes begin with, and how many they are; or an error's number -/
def dbody (l : List Int) : Option (Pa × List Int) := packet? (bpa (l.getD 0 0)) ((l.drop (meas l).1).take ((meas l).2.1 - (meas l).1))
def dnum (l : List Int) : Int := if l = [] then 3 else if bok (l.getD 0 0) = false then 1 else if (meas l).2.2 ≠ 0 then (meas l).2.2 else if (dbody l).isSome then 0 else 1
def DecPost (l : List Int) (w : World) (e : Ending) (w' : World) : Prop :=
  ∃ (q : Pkv) (n : Nat) (E : Value), e = .returned (.tuple #[q.val, .int .i64 n, E]) ∧
    ((dnum l ≠ 0 ∧ q = pkz ∧ n = 0 ∧ Hid (ErP w' E (dnum l))) ∨ (dnum l = 0 ∧ n = (meas l).2.1 ∧ E = .nilIface ∧ ∃ P r, dbody l = some (P, r) ∧ Hid (Mean w' w.heap.size q P))) ∧ Below w.heap.size w w'
theorem dec_bad (l : List Int) (w w' : World) (x : Value) (m : Int) (hm : dnum l = m) (h0 : m ≠ 0) (hE : Hid (ErP w' (.iface 64 x) m)) (hb : Below w.heap.size w w') : DecPost l w (.returned (.tuple #[pkz.val, .int .i64 (0 : Nat), .iface 64 x])) w' :=
  ⟨pkz, 0, _, rfl, .inl ⟨by rw [hm]; exact h0, rfl, rfl, by rw [hm]; exact hE⟩, hb⟩
theorem er_cells {w : World} {A : Nat} {vs : List Value} {c : Bool} (hA : w.cell? ⟨A, 1, none⟩ = some (.bool c)) : ∀ {d : Nat} {v : Value} {n : Int}, Er w d v n → Er (w.setCells A 0 vs) d v n
  | 0, _, _, h => h
  | d + 1, _, _, ⟨b, u, h1, h2, h3⟩ => ⟨b, u, h1, by
      rw [World.cell?_setCells_out A vs 0 w ⟨b, 1, none⟩ (fun e _ => by
        have e : b = A := e
        subst e
        obtain ⟨t, x, rfl⟩ := h3.iface
        rw [hA] at h2
        cases h2)]
      exact h2, er_cells hA h3⟩
theorem erp_cells {w : World} {A : Nat} {vs : List Value} {c : Bool} {E : Value} {n : Int} (h : ErP w E n) (hA : w.cell? ⟨A, 1, none⟩ = some (.bool c)) : ErP (w.setCells A 0 vs) E n := by
  obtain ⟨x, d, h1, h2, h3⟩ := h
  exact ⟨x, d, h1, h2, er_cells hA h3⟩
set_option maxHeartbeats 2000000 in
theorem dec_nil (ao : Option Addr) (cap : Nat) (w : World) : Calls Tryz.prog 4 #[.slice ao 0 cap] w (DecPost [] w) := by
  have HPN := hide (pk_new w pkz)
  have HBN : Hid (Below w.heap.size w (w.alloc (.cells pkz.cells.toArray 30))) := (Below.refl _ _).alloc (Nat.le_refl _) _
  have hdn : dnum [] = 3 := rfl
  obtain ⟨l, hl⟩ : ∃ l : List Int, l = [] := ⟨_, rfl⟩
  rw [← hl] at hdn ⊢
  have HDN := hide hdn
  clear hdn hl
  go_enter Tryz.func4, Tryz.ntmps4
  go_wp2_with fail
  refine (pf_use 3 _).mono ?_
  rintro e w1 ⟨x, rfl, hE, hb1⟩
  have HP1 := hide ((unhide HPN).below hb1)
  have HB1 : Hid (Below w.heap.size w w1) := (unhide HBN).trans (hb1.mono (unhide HBN).size)
  clear hb1 HPN HBN
  dsimp only
  go_step
  refine wpList_store_mid rfl 30 _ _ rfl w.heap.size 0 pkz.cells.toArray rfl rfl ((unhide HP1).there _) packet_size (Pkv.ones' _) ?_
  simp only [Act.put]
  have HPS := hide ((unhide HP1).stored pkz)
  have HBS : Hid (Below w.heap.size w (w1.setCells w.heap.size 0 pkz.cells)) := setCells_below (unhide HB1) (Nat.le_refl _)
  have HES : Hid (ErP (w1.setCells w.heap.size 0 pkz.cells) (.iface 64 x) 3) := erp_cells (unhide hE) (unhide HP1).dup
  generalize w1.setCells w.heap.size 0 pkz.cells = wS at HPS HBS HES ⊢
  go_wp2
  refine bodyPost_ret (res_pk3 (B := w.heap.size) (q := pkz) rfl rfl (unhide HPS)) rfl ?_
  exact dec_bad l w _ x 3 (unhide HDN) (by decide) HES (unhide HBS)

/-- a reader's cells -/
def rdc (q : Pkv) (ao : Option Addr) (m cap : Nat) : Array Value := #[.int .i64 q.kind, .bool q.dup, .int .i64 q.qos, .bool q.retain, .string q.topic, .int .i64 q.id, .string q.payload, q.props.val, .string q.client, .bool q.clean, .int .i64 q.keep, q.wills.val, q.user.val, q.pass.val, .int .i64 q.code, .bool q.session, q.subs.val, q.filters.val, q.codes.val, .slice ao m cap, .nilIface]
theorem reader_build (a : Act) (dst : Option Tmp) (x y : Operand) (ty : TypeId) (pos : String) (after : Array Edge) (q : Pkv) (ao : Option Addr) (m cap : Nat) (hx : a.eval x = q.val) (hy : a.eval y = .slice ao m cap) (w : World) :
    (execOp a.eval ⟨dst, .build 46 #[(0, x), (1, y)], ty, pos, after, none⟩).run Tryz.prog w = .ok (.value (.agg (rdc q ao m cap))) w := by
  unfold execOp
  simp only [List.map_toArray, List.map_cons, List.map_nil, hx, hy]
  kernel_rfl
theorem reader_alloc (ρ : Operand → Value) (dst : Option Tmp) (ty : TypeId) (pos : String) (after : Array Edge) (w : World) :
    (execOp ρ ⟨dst, .alloc 46, ty, pos, after, none⟩).run Tryz.prog w = .ok (.value (.pointer (some ⟨w.heap.size, 0, none⟩))) (w.alloc (.cells (rdc pkz none 0 0) 46)) := by
  kernel_rfl
theorem reader_size : (Tryz.prog.info? 46).map (·.size) = some 21 := by kernel_rfl
theorem rdc_one (q : Pkv) (ao : Option Addr) (m cap : Nat) : (rdc q ao m cap).all (·.oneCell') = true := by
  unfold rdc
  kernel_rfl
theorem reader_store (a : Act) (dst : Option Tmp) (x y : Operand) (ty : TypeId) (pos : String) (after : Array Edge) (q : Pkv) (ao : Option Addr) (m cap : Nat) (w : World) (hx : a.eval x = .pointer (some ⟨w.heap.size, 0, none⟩)) (hy : a.eval y = .agg (rdc q ao m cap)) :
    (execOp a.eval ⟨dst, .store 46 x y, ty, pos, after, none⟩).run Tryz.prog (w.alloc (.cells (rdc pkz none 0 0) 46)) = .ok .skip (w.alloc (.cells (rdc q ao m cap) 46)) := by
  show Sem.run Tryz.prog (do Instr.storeAt 46 (a.eval x) (a.eval y); pure Next.skip) _ = _
  rw [hx, hy]
  simp only [Sem.run_bind]
  rw [run_storeAt_new w 46 (rdc pkz none 0 0) (rdc q ao m cap) (by rw [reader_size]; rfl) rfl (rdc_one q ao m cap)]
  rfl
/-- an operation, at a step of a region that draws its order -/
theorem step_value {w w' : World} {ops : Array Oper} {o : Oper} {a : Act} {K : Act → World → Prop} {Q : Exit → Act → World → Prop} {E : Prop} {v : Value} (hgd : o.guard = none) (hr : (execOp a.eval o).run Tryz.prog w = .ok (.value v) w') (h : K (a.put o.dst v) w') :
    if Region.wanted o (yielded ops a.tmps) = true then Oper.wp Tryz.prog o a w K Q else E := by
  rw [if_pos (by simp [Region.wanted, hgd])]
  unfold Oper.wp
  rw [hr]
  exact h
theorem step_skip {w w' : World} {ops : Array Oper} {o : Oper} {a : Act} {K : Act → World → Prop} {Q : Exit → Act → World → Prop} {E : Prop} (hgd : o.guard = none) (hr : (execOp a.eval o).run Tryz.prog w = .ok .skip w') (h : K (a.put o.dst undef) w') :
    if Region.wanted o (yielded ops a.tmps) = true then Oper.wp Tryz.prog o a w K Q else E := by
  rw [if_pos (by simp [Region.wanted, hgd])]
  unfold Oper.wp
  rw [hr]
  exact h
theorem rdc_cell {w : World} {q : Pkv} {ao : Option Addr} {m cap : Nat} (j : Nat) (v : Value) (h : (rdc q ao m cap)[j]? = some v) : (w.alloc (.cells (rdc q ao m cap) 46)).cell? ⟨w.heap.size, j, none⟩ = some v := by
  have k := heap_alloc_new w (.cells (rdc q ao m cap) 46)
  unfold World.cell?
  dsimp only
  rw [k]
  simpa using h
theorem rdc_pk (w : World) (q : Pkv) (ao : Option Addr) (m cap : Nat) : Pk (w.alloc (.cells (rdc q ao m cap) 46)) w.heap.size q := fun j hj => by
  refine ⟨rdc_cell j _ ?_, by simp⟩
  rw [← cells_get q j hj]
  match j, hj with
  | 0, _ => rfl
  | 1, _ => rfl
  | 2, _ => rfl
  | 3, _ => rfl
  | 4, _ => rfl
  | 5, _ => rfl
  | 6, _ => rfl
  | 7, _ => rfl
  | 8, _ => rfl
  | 9, _ => rfl
  | 10, _ => rfl
  | 11, _ => rfl
  | 12, _ => rfl
  | 13, _ => rfl
  | 14, _ => rfl
  | 15, _ => rfl
  | 16, _ => rfl
  | 17, _ => rfl
  | 18, _ => rfl
  | n + 19, h => exact absurd h (by omega)
/-- a new reader -/
theorem rdc_rs (w0 w : World) (q : Pkv) (ao : Option Addr) (m cap : Nat) (l : List Int) (hb : Byt w0 (.slice ao m cap) l) (hw : Below w0.heap.size w0 w) : RS w0 (w.alloc (.cells (rdc q ao m cap) 46)) w.heap.size (some l) :=
  ⟨⟨rfl, fun k hk => by have hk : k = w.heap.size := hk; subst hk; simp⟩, ⟨q.dup, rdc_cell 1 _ rfl⟩, .slice ao m cap, l, .nilIface, ⟨rdc_cell 19 _ rfl, by simp, rdc_cell 20 _ rfl, by simp⟩, hb, hw.alloc hw.size _, hw.size, .inl ⟨rfl, rfl⟩⟩
theorem RSX.bad {w0 w : World} {R : Nat} {X : Nat → Prop} (h : RSX w0 w R X none) : ∃ t x d n, w.cell? ⟨R, 20, none⟩ = some (.iface t x) ∧ d ≤ 2 ∧ Er w d (.iface t x) n := by
  obtain ⟨_, _, bv, l', E, hr, hb, _, _, hst⟩ := h
  rcases hst with ⟨e, _⟩ | ⟨_, d, n, hd, he⟩
  · cases e
  · obtain ⟨t, x, rfl⟩ := he.iface
    exact ⟨t, x, d, n, hr.2.2.1, hd, he.er⟩
theorem Pk.far {w w' : World} {R A : Nat} {may : Nat → Prop} {q : Pkv} (h : Pk w A q) (hx : BX R may w w') (hA : A ≠ R) : Pk w' A q := fun j hj =>
  have hb := hx.block A (cell_lt (h 0 (by omega)).1) hA
  ⟨(World.cell?_of_block hb).trans (h j hj).1, (World.frozen?_of_block hb).trans (h j hj).2⟩
theorem bok_kind (b : Int) (h0 : 0 ≤ b) (h1 : b ≤ 255) (h : bok b = true) : 1 ≤ b / 16 ∧ b / 16 ≤ 15 := by
  refine ⟨?_, by omega⟩
  rcases Int.lt_or_le (b / 16) 1 with hk | hk
  · have : b / 16 = 0 := by omega
    unfold bok bmay at h
    simp [this] at h
  · exact hk
theorem packet_all (R : Nat) (b : Int) (h0 : 0 ≤ b) (h1 : b ≤ 255) (hb : bok b = true) (st : Option (List Int)) (w0 w : World) (h : RS w0 w R st) (hp : Pk w R (bpk b)) (hl : ∀ l, st = some l → l.length ≤ 65536) : Calls Tryz.prog 10 #[.pointer (some ⟨R, 0, none⟩)] w (PackPost w0 R (bpa b) st w) := by
  obtain ⟨k1, k2⟩ := bok_kind b h0 h1 hb
  unfold bpk at hp
  unfold bpa
  by_cases h3 : b / 16 = 3
  · rw [if_pos h3] at hp ⊢
    exact packet_k3 R _ _ _ st w0 w h hp hl
  · rw [if_neg h3] at hp ⊢
    generalize b / 16 = k at k1 k2 h3 hp
    have hk : k = 1 ∨ k = 2 ∨ k = 4 ∨ k = 5 ∨ k = 6 ∨ k = 7 ∨ k = 8 ∨ k = 9 ∨ k = 10 ∨ k = 11 ∨ k = 12 ∨ k = 13 ∨ k = 14 ∨ k = 15 := by omega
    rcases hk with rfl | rfl | rfl | rfl | rfl | rfl | rfl | rfl | rfl | rfl | rfl | rfl | rfl | rfl
    · exact packet_k1 R st w0 w h hp hl
    · exact packet_k2 R st w0 w h hp hl
    · exact packet_k4 R st w0 w h hp hl
    · exact packet_k5 R st w0 w h hp hl
    · exact packet_k6 R st w0 w h hp hl
    · exact packet_k7 R st w0 w h hp hl
    · exact packet_k8 R st w0 w h hp hl
    · exact packet_k9 R st w0 w h hp hl
    · exact packet_k10 R st w0 w h hp hl
    · exact packet_k11 R st w0 w h hp hl
    · exact packet_k12 R st w0 w h hp hl
    · exact packet_k13 R st w0 w h hp hl
    · exact packet_k14 R st w0 w h hp hl
    · exact packet_k15 R st w0 w h hp hl
theorem Mean.base {w : World} {B B' : Nat} {p : Pkv} {P : Pa} (h : Mean w B p P) (hB : B' ≤ B) : Mean w B' p P :=
  ⟨h.sc, owns_mono h.props hB, by
    obtain ⟨ws, h1, h2, h3⟩ := h.wills
    exact ⟨ws, owns_mono h1 hB, h2, fun i a b ha hb => by
      obtain ⟨k1, k2, k3, k4, k5⟩ := h3 i a b ha hb
      exact ⟨k1, k2, k3, k4, owns_mono k5 hB⟩⟩, owns_mono h.user hB, owns_mono h.pass hB, owns_mono h.subs hB, owns_mono h.filters hB, owns_mono h.codes hB⟩
theorem owns_cells {w : World} {A : Nat} {vs : List Value} {o B : Nat} {e : TypeId} {s : Nat} {v : Value} {n : Nat} {xs : List Value} (h : w.ownsRow B e s v n xs) (hA : A < B) : (w.setCells A o vs).ownsRow B e s v n xs := by
  induction vs generalizing w o with
  | nil => exact h
  | cons u vs ih =>
    rw [World.setCells]
    exact ih (owns_out h hA)
theorem Mean.cells {w : World} {A B : Nat} {vs : List Value} {p : Pkv} {P : Pa} (h : Mean w B p P) (hA : A < B) : Mean (w.setCells A 0 vs) B p P :=
  ⟨h.sc, owns_cells h.props hA, by
    obtain ⟨ws, h1, h2, h3⟩ := h.wills
    exact ⟨ws, owns_cells h1 hA, h2, fun i a b ha hb => by
      obtain ⟨k1, k2, k3, k4, k5⟩ := h3 i a b ha hb
      exact ⟨k1, k2, k3, k4, owns_cells k5 hA⟩⟩, owns_cells h.user hA, owns_cells h.pass hA, owns_cells h.subs hA, owns_cells h.filters hA, owns_cells h.codes hA⟩
end Go.Proofs.YtgdfnopnmdjklaaGreatDoor.K
/- Proved here: packet.Decode tells the packet with whose bytes bytes begin, and how many, or an error's number. Helper contracts. -/
namespace Go.Proofs.YtgdfnopnmdjklaaGreatDoor.K
open Go.RowKit
set_option maxRecDepth 100000

set_option maxHeartbeats 4000000 in
theorem dec_flag (bl off cap : Nat) (l : List Int) (w : World) (h : Byt w (.slice (some ⟨bl, off, none⟩) l.length cap) l) (hl : l ≠ []) (hok : bok (l.getD 0 0) = false) : Calls Tryz.prog 4 #[.slice (some ⟨bl, off, none⟩) l.length cap] w (DecPost l w) := by
  have HPN := hide (pk_new w pkz)
  have HBN : Hid (Below w.heap.size w (w.alloc (.cells pkz.cells.toArray 30))) := (Below.refl _ _).alloc (Nat.le_refl _) _
  have hl1 : 1 ≤ l.length := List.length_pos_iff.2 hl
  obtain ⟨hc1, hc2⟩ : l.length ≤ cap ∧ cap ≤ maxLen := by
    obtain ⟨ao', cap', e, k1, k2⟩ := h.form
    simp only [Value.slice.injEq] at e
    obtain ⟨_, _, rfl⟩ := e
    exact ⟨k1, k2⟩
  unfold maxLen at hc2
  have hr0 := h.range 0
  have hbl : w.cell? ⟨bl, off, none⟩ = some (.int .u8 (l.getD 0 0)) := by
    obtain ⟨ao', cap', e', _, _, hcase⟩ := h
    simp only [Value.slice.injEq] at e'
    obtain ⟨rfl, _, rfl⟩ := e'
    rcases hcase with h0 | ⟨b', off', e2, hc⟩
    · exact absurd h0 hl
    · simp only [Option.some.injEq, Addr.mk.injEq] at e2
      obtain ⟨rfl, rfl, _⟩ := e2
      exact hc 0 (by omega)
  have hcl := cell_lt hbl
  have HH := hide h
  have HL := hide hl
  generalize hn : l.length = n at hc1 hl1 HH
  have HN := hide hn
  obtain ⟨b, hb⟩ : ∃ b, l.getD 0 0 = b := ⟨_, rfl⟩
  rw [hb] at hr0 hbl hok
  have HB0 := hide hb
  clear h hl hn hb
  have HDN : Hid (dnum l = 1) := by
    show _ = _
    unfold dnum
    rw [if_neg (unhide HL), unhide HB0, if_pos hok]
  go_enter Tryz.func4, Tryz.ntmps4
  go_wp2_with fail
  refine (begin_any b hr0.1 hr0.2 _).mono ?_
  rintro e w1 ⟨rfl, hb1⟩
  have HP1 := hide ((unhide HPN).below hb1)
  have HB1 : Hid (Below w.heap.size w w1) := (unhide HBN).trans (hb1.mono (unhide HBN).size)
  clear hb1 HPN HBN hbl hcl
  dsimp only
  iterate 10 go_step
  refine wpList_store_mid rfl 30 _ _ rfl w.heap.size 0 (bpk b).cells.toArray rfl rfl ((unhide HP1).there _) packet_size (Pkv.ones' _) ?_
  simp only [Act.put]
  have HP2 := hide ((unhide HP1).stored (bpk b))
  have HB2 : Hid (Below w.heap.size w (w1.setCells w.heap.size 0 (bpk b).cells)) := setCells_below (unhide HB1) (Nat.le_refl _)
  generalize w1.setCells w.heap.size 0 (bpk b).cells = w2 at HP2 HB2 ⊢
  clear HP1 HB1
  rw [hok]
  go_wp2_with fail
  refine (pf_use 1 _).mono ?_
  rintro e w3 ⟨x, rfl, hE, hb3⟩
  have HP3 := hide ((unhide HP2).below hb3)
  have HB3 : Hid (Below w.heap.size w w3) := (unhide HB2).trans (hb3.mono (unhide HB2).size)
  clear hb3 HP2 HB2
  dsimp only
  go_step
  refine wpList_store_mid rfl 30 _ _ rfl w.heap.size 0 pkz.cells.toArray rfl rfl ((unhide HP3).there _) packet_size (Pkv.ones' _) ?_
  simp only [Act.put]
  have HPS := hide ((unhide HP3).stored pkz)
  have HBS : Hid (Below w.heap.size w (w3.setCells w.heap.size 0 pkz.cells)) := setCells_below (unhide HB3) (Nat.le_refl _)
  have HES : Hid (ErP (w3.setCells w.heap.size 0 pkz.cells) (.iface 64 x) 1) := erp_cells (unhide hE) (unhide HP3).dup
  generalize w3.setCells w.heap.size 0 pkz.cells = wS at HPS HBS HES ⊢
  go_wp2
  refine bodyPost_ret (res_pk3 (B := w.heap.size) (q := pkz) rfl rfl (unhide HPS)) rfl ?_
  exact dec_bad l w _ x 1 (unhide HDN) (by decide) HES (unhide HBS)
set_option maxHeartbeats 4000000 in
theorem dec_meas (bl off cap : Nat) (l : List Int) (w : World) (h : Byt w (.slice (some ⟨bl, off, none⟩) l.length cap) l) (hl : l ≠ []) (hok : bok (l.getD 0 0) = true) (hm : (meas l).2.2 ≠ 0) : Calls Tryz.prog 4 #[.slice (some ⟨bl, off, none⟩) l.length cap] w (DecPost l w) := by
  have HPN := hide (pk_new w pkz)
  have HBN : Hid (Below w.heap.size w (w.alloc (.cells pkz.cells.toArray 30))) := (Below.refl _ _).alloc (Nat.le_refl _) _
  have hl1 : 1 ≤ l.length := List.length_pos_iff.2 hl
  obtain ⟨hc1, hc2⟩ : l.length ≤ cap ∧ cap ≤ maxLen := by
    obtain ⟨ao', cap', e, k1, k2⟩ := h.form
    simp only [Value.slice.injEq] at e
    obtain ⟨_, _, rfl⟩ := e
    exact ⟨k1, k2⟩
  unfold maxLen at hc2
  have hr0 := h.range 0
  have hbl : w.cell? ⟨bl, off, none⟩ = some (.int .u8 (l.getD 0 0)) := by
    obtain ⟨ao', cap', e', _, _, hcase⟩ := h
    simp only [Value.slice.injEq] at e'
    obtain ⟨rfl, _, rfl⟩ := e'
    rcases hcase with h0 | ⟨b', off', e2, hc⟩
    · exact absurd h0 hl
    · simp only [Option.some.injEq, Addr.mk.injEq] at e2
      obtain ⟨rfl, rfl, _⟩ := e2
      exact hc 0 (by omega)
  have hcl := cell_lt hbl
  have HH := hide h
  have HL := hide hl
  generalize hn : l.length = n at hc1 hl1 HH
  have HN := hide hn
  obtain ⟨b, hb⟩ : ∃ b, l.getD 0 0 = b := ⟨_, rfl⟩
  rw [hb] at hr0 hbl hok
  have HB0 := hide hb
  clear h hl hn hb
  have HDN : Hid (dnum l = (meas l).2.2) := by
    show _ = _
    unfold dnum
    rw [if_neg (unhide HL), unhide HB0, if_neg (by rw [hok]; decide), if_pos hm]
  generalize hmm : (meas l).2.2 = m at hm HDN
  have HMM := hide hmm
  clear hmm
  go_enter Tryz.func4, Tryz.ntmps4
  go_wp2_with fail
  refine (begin_any b hr0.1 hr0.2 _).mono ?_
  rintro e w1 ⟨rfl, hb1⟩
  have HP1 := hide ((unhide HPN).below hb1)
  have HB1 : Hid (Below w.heap.size w w1) := (unhide HBN).trans (hb1.mono (unhide HBN).size)
  clear hb1 HPN HBN hbl hcl
  dsimp only
  iterate 10 go_step
  refine wpList_store_mid rfl 30 _ _ rfl w.heap.size 0 (bpk b).cells.toArray rfl rfl ((unhide HP1).there _) packet_size (Pkv.ones' _) ?_
  simp only [Act.put]
  have HP2 := hide ((unhide HP1).stored (bpk b))
  have HB2 : Hid (Below w.heap.size w (w1.setCells w.heap.size 0 (bpk b).cells)) := setCells_below (unhide HB1) (Nat.le_refl _)
  generalize w1.setCells w.heap.size 0 (bpk b).cells = w2 at HP2 HB2 ⊢
  clear HP1 HB1
  rw [hok]
  have HMS := hide (measure_any (.slice (some ⟨bl, off, none⟩) n cap) l w2 ((unhide HH).below (unhide HB2)) (unhide HL))
  go_wp2_with fail
  refine (unhide HMS).mono ?_
  rintro e w3 ⟨E, rfl, hE, hb3⟩
  have HP3 := hide ((unhide HP2).below hb3)
  have HB3 : Hid (Below w.heap.size w w3) := (unhide HB2).trans (hb3.mono (unhide HB2).size)
  clear hb3 HP2 HB2 HMS
  rw [unhide HMM] at hE
  rcases unhide hE with ⟨h0, _⟩ | ⟨_, x, d, hx, hd, he⟩
  · exact absurd h0 hm
  · subst hx
    have HE : Hid (ErP w3 (.iface 64 x) m) := ⟨x, d, rfl, hd, he⟩
    clear he hE
    go_upto_region 8 with fail
    iterate 7 go_step
    refine wpList_store_mid rfl 30 _ _ rfl w.heap.size 0 pkz.cells.toArray rfl rfl ((unhide HP3).there _) packet_size (Pkv.ones' _) ?_
    simp only [Act.put]
    have HPS := hide ((unhide HP3).stored pkz)
    have HBS : Hid (Below w.heap.size w (w3.setCells w.heap.size 0 pkz.cells)) := setCells_below (unhide HB3) (Nat.le_refl _)
    have HES : Hid (ErP (w3.setCells w.heap.size 0 pkz.cells) (.iface 64 x) m) := erp_cells (unhide HE) (unhide HP3).dup
    generalize w3.setCells w.heap.size 0 pkz.cells = wS at HPS HBS HES ⊢
    go_wp2
    refine bodyPost_ret (res_pk3 (B := w.heap.size) (q := pkz) rfl rfl (unhide HPS)) rfl ?_
    exact dec_bad l w _ x m (unhide HDN) hm HES (unhide HBS)
theorem meas_le (l : List Int) (h : (meas l).2.2 = 0) : 1 ≤ (meas l).1 ∧ (meas l).1 ≤ (meas l).2.1 ∧ (meas l).2.1 ≤ l.length ∧ (meas l).2.1 ≤ 65536 := by
  unfold meas at h ⊢
  split at h
  · contradiction
  · split at h
    · simp at h
    · split at h
      · simp at h
      · rename_i h1 h2 h3
        rw [if_neg h1, if_neg h2, if_neg h3]
        simp only
        omega
theorem stp_none {α : Type} {f : List Int → Option (α × List Int)} {l : List Int} {x : α} (h : Stp f (some l) x none) : f l = none := by
  unfold Stp at h
  simp only at h
  cases hq : f l with
  | none => rfl
  | some r => rw [hq] at h; cases h.2
theorem stp_some {α : Type} {f : List Int → Option (α × List Int)} {l l' : List Int} {x : α} (h : Stp f (some l) x (some l')) : f l = some (x, l') := by
  unfold Stp at h
  simp only at h
  cases hq : f l with
  | none => rw [hq] at h; cases h
  | some r =>
    rw [hq] at h
    obtain ⟨rfl, e⟩ := h
    cases e
    rfl
theorem Pk.lt {w : World} {A : Nat} {q : Pkv} (h : Pk w A q) : A < w.heap.size := cell_lt (h 0 (by omega)).1
set_option maxHeartbeats 4000000 in
theorem dec_body (bl off cap : Nat) (l : List Int) (w : World) (h : Byt w (.slice (some ⟨bl, off, none⟩) l.length cap) l) (hl : l ≠ []) (hok : bok (l.getD 0 0) = true) (hm : (meas l).2.2 = 0) : Calls Tryz.prog 4 #[.slice (some ⟨bl, off, none⟩) l.length cap] w (DecPost l w) := by
  have HPN := hide (pk_new w pkz)
  have HBN : Hid (Below w.heap.size w (w.alloc (.cells pkz.cells.toArray 30))) := (Below.refl _ _).alloc (Nat.le_refl _) _
  have hl1 : 1 ≤ l.length := List.length_pos_iff.2 hl
  obtain ⟨hc1, hc2⟩ : l.length ≤ cap ∧ cap ≤ maxLen := by
    obtain ⟨ao', cap', e, k1, k2⟩ := h.form
    simp only [Value.slice.injEq] at e
    obtain ⟨_, _, rfl⟩ := e
    exact ⟨k1, k2⟩
  unfold maxLen at hc2
  have hr0 := h.range 0
  have hbl : w.cell? ⟨bl, off, none⟩ = some (.int .u8 (l.getD 0 0)) := by
    obtain ⟨ao', cap', e', _, _, hcase⟩ := h
    simp only [Value.slice.injEq] at e'
    obtain ⟨rfl, _, rfl⟩ := e'
    rcases hcase with h0 | ⟨b', off', e2, hc⟩
    · exact absurd h0 hl
    · simp only [Option.some.injEq, Addr.mk.injEq] at e2
      obtain ⟨rfl, rfl, _⟩ := e2
      exact hc 0 (by omega)
  have hcl := cell_lt hbl
  have HH := hide h
  have HL := hide hl
  generalize hn : l.length = n at hc1 hl1 HH
  have HN := hide hn
  obtain ⟨b, hb⟩ : ∃ b, l.getD 0 0 = b := ⟨_, rfl⟩
  rw [hb] at hr0 hbl hok
  have HB0 := hide hb
  clear h hl hn hb
  obtain ⟨hd, hhd⟩ : ∃ hd, hd = (meas l).1 := ⟨_, rfl⟩
  obtain ⟨sz, hsz⟩ : ∃ sz, sz = (meas l).2.1 := ⟨_, rfl⟩
  have hms := meas_le l hm
  rw [← hhd, ← hsz] at hms
  obtain ⟨hh1, hh2, hh3, hh4⟩ := hms
  have HDB : Hid (dbody l = packet? (bpa b) ((l.drop hd).take (sz - hd))) := by
    show dbody l = _
    unfold dbody
    rw [← hhd, ← hsz, unhide HB0]
  have HD1 : Hid (packet? (bpa b) ((l.drop hd).take (sz - hd)) = none → dnum l = 1) := fun e => by
    unfold dnum
    rw [if_neg (unhide HL), unhide HB0, if_neg (by rw [hok]; decide), if_neg (by rw [hm]; decide), unhide HDB, e]
    rfl
  have HD0 : Hid (∀ {P' : Pa} {l' : List Int}, packet? (bpa b) ((l.drop hd).take (sz - hd)) = some (P', l') → dnum l = 0) := fun e => by
    unfold dnum
    rw [if_neg (unhide HL), unhide HB0, if_neg (by rw [hok]; decide), if_neg (by rw [hm]; decide), unhide HDB, e]
    rfl
  have HSZ : Hid (sz = (meas l).2.1) := hsz
  rw [unhide HN] at hh3
  go_enter Tryz.func4, Tryz.ntmps4
  go_wp2_with fail
  refine (begin_any b hr0.1 hr0.2 _).mono ?_
  rintro e w1 ⟨rfl, hb1⟩
  have HP1 := hide ((unhide HPN).below hb1)
  have HB1 : Hid (Below w.heap.size w w1) := (unhide HBN).trans (hb1.mono (unhide HBN).size)
  clear hb1 HPN HBN hbl hcl
  dsimp only
  iterate 10 go_step
  refine wpList_store_mid rfl 30 _ _ rfl w.heap.size 0 (bpk b).cells.toArray rfl rfl ((unhide HP1).there _) packet_size (Pkv.ones' _) ?_
  simp only [Act.put]
  have HP2 := hide ((unhide HP1).stored (bpk b))
  have HB2 : Hid (Below w.heap.size w (w1.setCells w.heap.size 0 (bpk b).cells)) := setCells_below (unhide HB1) (Nat.le_refl _)
  generalize w1.setCells w.heap.size 0 (bpk b).cells = w2 at HP2 HB2 ⊢
  clear HP1 HB1
  rw [hok]
  have HMS := hide (measure_any (.slice (some ⟨bl, off, none⟩) n cap) l w2 ((unhide HH).below (unhide HB2)) (unhide HL))
  go_wp2_with fail
  refine (unhide HMS).mono ?_
  rintro e w3 ⟨E, rfl, hE, hb3⟩
  have HP3 := hide ((unhide HP2).below hb3)
  have HB3 : Hid (Below w.heap.size w w3) := (unhide HB2).trans (hb3.mono (unhide HB2).size)
  clear hb3 HP2 HB2 HMS
  obtain ⟨q, hq⟩ : ∃ q, q = bpk b := ⟨_, rfl⟩
  have HPK : Hid (∀ w4 : World, RS w3 w4 w3.heap.size (some ((l.drop hd).take (sz - hd))) → Pk w4 w3.heap.size q → Calls Tryz.prog 10 #[.pointer (some ⟨w3.heap.size, 0, none⟩)] w4 (PackPost w3 w3.heap.size (bpa b) (some ((l.drop hd).take (sz - hd))) w4)) := fun w4 k1 k2 => by
    rw [hq] at k2
    exact packet_all _ _ hr0.1 hr0.2 hok _ _ _ k1 k2 (fun l2 e => by
      cases e
      rw [List.length_take]
      omega)
  rw [← hq] at HP3
  rw [← hhd, ← hsz]
  clear hq hhd hsz
  have HMID := hide (((unhide HH).below (unhide HB3)).mid hd (sz - hd) (by omega))
  by_cases hcap : cap = hd
  · have e1 : hd = cap := hcap.symm
    clear hcap
    subst e1
    have e2 : hd = n := by omega
    have e3 : sz = hd := by omega
    subst e3
    have HBY : Hid (Byt w3 (.slice (some ⟨bl, off, none⟩) 0 0) ((l.drop sz).take (sz - sz))) := by
      show Byt _ _ _
      have k := unhide HMID
      rw [if_pos rfl, Nat.sub_self] at k
      rw [Nat.sub_self]
      exact k
    clear HMID
    subst e2
    obtain ⟨hE0, rfl⟩ : (meas l).2.2 = 0 ∧ E = .nilIface := by
      rcases unhide hE with h | ⟨h, _⟩
      · exact h
      · exact absurd hm h
    clear hE hE0
    have hbd3 := bel_drew w3
    have HPd := hide ((unhide HP3).below hbd3)
    have HBd : Hid (Below w.heap.size w w3.drew) := (unhide HB3).trans (hbd3.mono (unhide HB3).size)
    clear hbd3
    go_wp2_with fail
    refine wp_region_noPanic ?_
    refine wp_region_held_drew (S := (fun w' => w'.rangeAt w.heap.size 0 q.cells)) (by kernel_rfl) (unhide HPd).range (fun hHeld => ?_)
    refine wpAnyH_take (i := 0) (oi := { dst := some 35, op := Op.load 30 (Operand.tmp 2), type := 30, pos := "packet.go:81", after := #[], guard := none }) (v := q.val) rfl (by kernel_rfl) (by kernel_rfl) (by kernel_rfl) (fun _ _ _ h => h) (yieldsIf_load_mid (by rfl) 30 _ rfl w.heap.size 0 rfl q.cells _ (fun _ h => h) Tryz.underlying30 rfl packet_size) (by assumption) ?_
    simp only [Act.put, List.setIfInBounds_toArray, List.set_cons_zero, List.set_cons_succ]
    refine wpAnyH_take (i := 1) (oi := { dst := some 36, op := Op.move (Operand.tmp 0), type := 23, pos := "packet.go:81", after := #[], guard := none }) (v := ?v1) rfl (by kernel_rfl) (by kernel_rfl) (by kernel_rfl) (fun _ _ _ h => h) (Or.inl ⟨by rfl, ?hy1⟩) (by assumption) ?rest1
    case hy1 => (intro w hSw; (try dsimp only at hSw); go_simp; (try rw [if_pos (by omega)]); (try with_reducible rfl))
    simp only [Act.put, List.setIfInBounds_toArray, List.set_cons_zero, List.set_cons_succ]
    refine wpAnyH_take (i := 2) (oi := { dst := some 37, op := Op.move (Operand.tmp 6), type := 3, pos := "packet.go:81", after := #[], guard := none }) (v := ?v2) rfl (by kernel_rfl) (by kernel_rfl) (by kernel_rfl) (fun _ _ _ h => h) (Or.inl ⟨by rfl, ?hy2⟩) (by assumption) ?rest2
    case hy2 => (intro w hSw; (try dsimp only at hSw); go_simp; (try rw [if_pos (by omega)]); (try with_reducible rfl))
    simp only [Act.put, List.setIfInBounds_toArray, List.set_cons_zero, List.set_cons_succ]
    refine wpAnyH_take (i := 3) (oi := { dst := some 38, op := Op.move (Operand.tmp 3), type := 3, pos := "packet.go:81", after := #[], guard := none }) (v := ?v3) rfl (by kernel_rfl) (by kernel_rfl) (by kernel_rfl) (fun _ _ _ h => h) (Or.inl ⟨by rfl, ?hy3⟩) (by assumption) ?rest3
    case hy3 => (intro w hSw; (try dsimp only at hSw); go_simp; (try rw [if_pos (by omega)]); (try with_reducible rfl))
    simp only [Act.put, List.setIfInBounds_toArray, List.set_cons_zero, List.set_cons_succ]
    refine wpAnyH_take (i := 4) (oi := { dst := some 39, op := Op.slice 23 (Operand.tmp 36) (some (Operand.tmp 37)) (some (Operand.tmp 38)) none, type := 23, pos := "packet.go:81", after := #[{ on := 1, ground := Ground.data }, { on := 2, ground := Ground.data }, { on := 3, ground := Ground.data }], guard := none }) (v := ?v4) rfl (by kernel_rfl) (by kernel_rfl) (by kernel_rfl) (fun _ _ _ h => h) (Or.inl ⟨by rfl, ?hy4⟩) (by assumption) ?rest4
    case hy4 => (intro w hSw; (try dsimp only at hSw); go_simp; (try rw [if_pos (by omega)]); (try with_reducible rfl))
    simp only [Act.put, List.setIfInBounds_toArray, List.set_cons_zero, List.set_cons_succ]
    refine wpAnyH_take (i := 5) (oi := { dst := some 40, op := Op.build 46 #[(0, Operand.tmp 35), (1, Operand.tmp 39)], type := 46, pos := "packet.go:81", after := #[{ on := 0, ground := Ground.data }, { on := 4, ground := Ground.data }], guard := none }) (v := .agg (rdc q (some ⟨bl, off, none⟩) 0 0)) rfl (by kernel_rfl) (by kernel_rfl) (by kernel_rfl) (fun _ _ _ h => h) (Or.inl ⟨by rfl, fun w _ => reader_build _ _ _ _ _ _ _ q (some ⟨bl, off, none⟩) 0 0 rfl rfl w⟩) (by assumption) ?_
    simp only [Act.put, List.setIfInBounds_toArray, List.set_cons_zero, List.set_cons_succ]
    refine wpAnyH_ready (rs := [6]) (by kernel_rfl) (by simp) ?_
    refine AllReadyH.cons (o := { dst := some 7, op := Op.alloc 46, type := 0, pos := "packet.go:81", after := #[], guard := none }) rfl (fun K hK => ?_) AllReadyH.nil
    refine step_value rfl (reader_alloc _ _ _ _ _ _) ?_
    refine hK.out _ _ ((unhide HPd).below ((Below.refl _ _).alloc (Nat.le_refl _) _)).range (fun hHeld => ?_)
    clear hK K
    simp only [Act.put, List.setIfInBounds_toArray, List.set_cons_zero, List.set_cons_succ]
    refine wpAnyH_ready (rs := [7]) (by kernel_rfl) (by simp) ?_
    refine AllReadyH.cons (o := { dst := none, op := Op.store 46 (Operand.tmp 7) (Operand.tmp 40), type := 0, pos := "packet.go:81", after := #[{ on := 6, ground := Ground.data }, { on := 5, ground := Ground.data }, { on := 0, ground := Ground.phase }, { on := 1, ground := Ground.phase }, { on := 2, ground := Ground.phase }, { on := 3, ground := Ground.phase }, { on := 4, ground := Ground.phase }, { on := 5, ground := Ground.phase }, { on := 6, ground := Ground.phase }], guard := none }) rfl (fun K hK => ?_) AllReadyH.nil
    refine step_skip rfl (reader_store _ _ _ _ _ _ _ q (some ⟨bl, off, none⟩) 0 0 w3.drew rfl rfl) ?_
    refine hK.out _ _ ((unhide HPd).below ((Below.refl _ _).alloc (Nat.le_refl _) _)).range (fun hHeld => ?_)
    clear hK K
    simp only [Act.put]
    refine wpAnyH_done (by kernel_rfl) ?_ _
    refine NoPanic.normal ?_
    have hR : w3.drew.heap.size = w3.heap.size := rfl
    have HPR := hide (rdc_pk w3.drew q (some ⟨bl, off, none⟩) 0 0)
    have HRS := hide (rdc_rs w3 w3.drew q (some ⟨bl, off, none⟩) 0 0 ((l.drop sz).take (sz - sz)) (unhide HBY) (bel_drew w3))
    have HPA : Hid (Pk (w3.drew.alloc (.cells (rdc q (some ⟨bl, off, none⟩) 0 0) 46)) w.heap.size q) := (unhide HPd).below ((Below.refl _ _).alloc (Nat.le_refl _) _)
    have HBA : Hid (Below w.heap.size w (w3.drew.alloc (.cells (rdc q (some ⟨bl, off, none⟩) 0 0) 46))) := (unhide HBd).trans (((Below.refl _ _).alloc (Nat.le_refl _) _).mono (unhide HBd).size)
    have hAR : w.heap.size < w3.heap.size := (unhide HP3).lt
    have hWs : w3.heap.size < (w3.drew.alloc (.cells (rdc q (some ⟨bl, off, none⟩) 0 0) 46)).heap.size := by simp
    rw [hR] at HPR HRS
    generalize w3.drew.alloc (.cells (rdc q (some ⟨bl, off, none⟩) 0 0) 46) = w4 at HPR HRS HPA HBA hWs ⊢
    clear HPd HBd hHeld hR HP3
    go_wp2_with fail
    refine ((unhide HPK) _ (unhide HRS) (unhide HPR)).mono ?_
    rintro e w5 ⟨rfl, p', P', st', hp5, hM5, hs5, h5, hx5⟩
    have HP5 := hide hp5
    have HS5 := hide h5
    have HST5 := hide hs5
    have HA5 := hide ((unhide HPA).far hx5 (Nat.ne_of_lt hAR))
    have HB5 : Hid (Below w.heap.size w w5) := (unhide HBA).trans (hx5.below (Nat.le_of_lt hAR) (unhide HBA).size)
    have hR5 : w3.heap.size < w5.heap.size := Nat.lt_of_lt_of_le hWs hx5.size
    have HM5 : Hid (Mean w5 w3.heap.size.succ p' P') := (unhide hM5).base hWs
    clear hp5 h5 hs5 hx5 hM5 HPA HBA HPR HRS HPK
    cases st' with
    | none =>
      obtain ⟨t, x, d, k, c20, hd2, he⟩ := (unhide HS5).bad
      have HE5 := hide he
      clear he
      have HDN : Hid (dnum l = 1) := (unhide HD1) (stp_none (unhide HST5))
      go_wp2_with fail
      refine (pbroken d hd2 _ k _ (unhide HE5)).mono ?_
      rintro e w6 ⟨y, rfl, hE, hb6⟩
      have HP6 := hide ((unhide HA5).below hb6)
      have HB6 : Hid (Below w.heap.size w w6) := (unhide HB5).trans (hb6.mono (unhide HB5).size)
      clear hb6
      dsimp only
      go_step
      refine wpList_store_mid rfl 30 _ _ rfl w.heap.size 0 pkz.cells.toArray rfl rfl ((unhide HP6).there _) packet_size (Pkv.ones' _) ?_
      simp only [Act.put]
      have HPS := hide ((unhide HP6).stored pkz)
      have HBS : Hid (Below w.heap.size w (w6.setCells w.heap.size 0 pkz.cells)) := setCells_below (unhide HB6) (Nat.le_refl _)
      have HES : Hid (ErP (w6.setCells w.heap.size 0 pkz.cells) (.iface 64 y) 1) := erp_cells (unhide hE) (unhide HP6).dup
      generalize w6.setCells w.heap.size 0 pkz.cells = wS at HPS HBS HES ⊢
      go_wp2
      refine bodyPost_ret (res_pk3 (B := w.heap.size) (q := pkz) rfl rfl (unhide HPS)) rfl ?_
      exact dec_bad l w _ y 1 (unhide HDN) (by decide) HES (unhide HBS)
    | some l' =>
      have hds := stp_some (unhide HST5)
      have HDN : Hid (dnum l = 0) := (unhide HD0) hds
      have HDS := hide hds
      clear hds
      obtain ⟨_, _, c20⟩ | ⟨hno, _⟩ := (unhide HS5).err
      · go_upto_region 13 with fail
        iterate 4 go_step
        refine wpList_load_mid rfl 30 _ rfl w3.heap.size 0 rfl p'.cells _ (unhide HP5).range Tryz.underlying30 rfl packet_size ?_
        simp only [Act.put, List.setIfInBounds_toArray, List.set_cons_zero, List.set_cons_succ]
        iterate 3 go_step
        refine wpList_store_mid rfl 30 _ _ rfl w.heap.size 0 p'.cells.toArray rfl rfl ((unhide HA5).there _) packet_size (Pkv.ones' _) ?_
        simp only [Act.put]
        have HPS := hide ((unhide HA5).stored p')
        have HBS : Hid (Below w.heap.size w (w5.setCells w.heap.size 0 p'.cells)) := setCells_below (unhide HB5) (Nat.le_refl _)
        have HMS : Hid (Mean (w5.setCells w.heap.size 0 p'.cells) w.heap.size p' P') := ((unhide HM5).cells (Nat.lt_succ_of_lt hAR)).base (Nat.le_succ_of_le (Nat.le_of_lt hAR))
        generalize w5.setCells w.heap.size 0 p'.cells = w6 at HPS HBS HMS ⊢
        clear c20
        go_wp2
        refine bodyPost_ret (res_pk3 (B := w.heap.size) (q := p') rfl rfl (unhide HPS)) rfl ?_
        exact ⟨p', sz, .nilIface, rfl, .inr ⟨unhide HDN, (unhide HSZ), rfl, P', l', (unhide HDB).trans (unhide HDS), HMS⟩, unhide HBS⟩
      · cases hno
  · have HBY : Hid (Byt w3 (.slice (some ⟨bl, off + hd, none⟩) (sz - hd) (cap - hd)) ((l.drop hd).take (sz - hd))) := by
      show Byt _ _ _
      have k := unhide HMID
      rw [if_neg hcap] at k
      exact k
    clear HMID
    obtain ⟨hE0, rfl⟩ : (meas l).2.2 = 0 ∧ E = .nilIface := by
      rcases unhide hE with h | ⟨h, _⟩
      · exact h
      · exact absurd hm h
    clear hE hE0
    have hbd3 := bel_drew w3
    have HPd := hide ((unhide HP3).below hbd3)
    have HBd : Hid (Below w.heap.size w w3.drew) := (unhide HB3).trans (hbd3.mono (unhide HB3).size)
    clear hbd3
    go_wp2_with fail
    refine wp_region_noPanic ?_
    refine wp_region_held_drew (S := (fun w' => w'.rangeAt w.heap.size 0 q.cells)) (by kernel_rfl) (unhide HPd).range (fun hHeld => ?_)
    refine wpAnyH_take (i := 0) (oi := { dst := some 35, op := Op.load 30 (Operand.tmp 2), type := 30, pos := "packet.go:81", after := #[], guard := none }) (v := q.val) rfl (by kernel_rfl) (by kernel_rfl) (by kernel_rfl) (fun _ _ _ h => h) (yieldsIf_load_mid (by rfl) 30 _ rfl w.heap.size 0 rfl q.cells _ (fun _ h => h) Tryz.underlying30 rfl packet_size) (by assumption) ?_
    simp only [Act.put, List.setIfInBounds_toArray, List.set_cons_zero, List.set_cons_succ]
    refine wpAnyH_take (i := 1) (oi := { dst := some 36, op := Op.move (Operand.tmp 0), type := 23, pos := "packet.go:81", after := #[], guard := none }) (v := ?v5) rfl (by kernel_rfl) (by kernel_rfl) (by kernel_rfl) (fun _ _ _ h => h) (Or.inl ⟨by rfl, ?hy5⟩) (by assumption) ?rest5
    case hy5 => (intro w hSw; (try dsimp only at hSw); go_simp; (try rw [if_pos (by omega)]); (try with_reducible rfl))
    simp only [Act.put, List.setIfInBounds_toArray, List.set_cons_zero, List.set_cons_succ]
    refine wpAnyH_take (i := 2) (oi := { dst := some 37, op := Op.move (Operand.tmp 6), type := 3, pos := "packet.go:81", after := #[], guard := none }) (v := ?v6) rfl (by kernel_rfl) (by kernel_rfl) (by kernel_rfl) (fun _ _ _ h => h) (Or.inl ⟨by rfl, ?hy6⟩) (by assumption) ?rest6
    case hy6 => (intro w hSw; (try dsimp only at hSw); go_simp; (try rw [if_pos (by omega)]); (try with_reducible rfl))
    simp only [Act.put, List.setIfInBounds_toArray, List.set_cons_zero, List.set_cons_succ]
    refine wpAnyH_take (i := 3) (oi := { dst := some 38, op := Op.move (Operand.tmp 3), type := 3, pos := "packet.go:81", after := #[], guard := none }) (v := ?v7) rfl (by kernel_rfl) (by kernel_rfl) (by kernel_rfl) (fun _ _ _ h => h) (Or.inl ⟨by rfl, ?hy7⟩) (by assumption) ?rest7
    case hy7 => (intro w hSw; (try dsimp only at hSw); go_simp; (try rw [if_pos (by omega)]); (try with_reducible rfl))
    simp only [Act.put, List.setIfInBounds_toArray, List.set_cons_zero, List.set_cons_succ]
    refine wpAnyH_take (i := 4) (oi := { dst := some 39, op := Op.slice 23 (Operand.tmp 36) (some (Operand.tmp 37)) (some (Operand.tmp 38)) none, type := 23, pos := "packet.go:81", after := #[{ on := 1, ground := Ground.data }, { on := 2, ground := Ground.data }, { on := 3, ground := Ground.data }], guard := none }) (v := ?v8) rfl (by kernel_rfl) (by kernel_rfl) (by kernel_rfl) (fun _ _ _ h => h) (Or.inl ⟨by rfl, ?hy8⟩) (by assumption) ?rest8
    case hy8 => (intro w hSw; (try dsimp only at hSw); go_simp; (try rw [if_pos (by omega)]); (try with_reducible rfl))
    simp only [Act.put, List.setIfInBounds_toArray, List.set_cons_zero, List.set_cons_succ]
    refine wpAnyH_take (i := 5) (oi := { dst := some 40, op := Op.build 46 #[(0, Operand.tmp 35), (1, Operand.tmp 39)], type := 46, pos := "packet.go:81", after := #[{ on := 0, ground := Ground.data }, { on := 4, ground := Ground.data }], guard := none }) (v := .agg (rdc q (some ⟨bl, off + hd, none⟩) (sz - hd) (cap - hd))) rfl (by kernel_rfl) (by kernel_rfl) (by kernel_rfl) (fun _ _ _ h => h) (Or.inl ⟨by rfl, fun w _ => reader_build _ _ _ _ _ _ _ q (some ⟨bl, off + hd, none⟩) (sz - hd) (cap - hd) rfl rfl w⟩) (by assumption) ?_
    simp only [Act.put, List.setIfInBounds_toArray, List.set_cons_zero, List.set_cons_succ]
    refine wpAnyH_ready (rs := [6]) (by kernel_rfl) (by simp) ?_
    refine AllReadyH.cons (o := { dst := some 7, op := Op.alloc 46, type := 0, pos := "packet.go:81", after := #[], guard := none }) rfl (fun K hK => ?_) AllReadyH.nil
    refine step_value rfl (reader_alloc _ _ _ _ _ _) ?_
    refine hK.out _ _ ((unhide HPd).below ((Below.refl _ _).alloc (Nat.le_refl _) _)).range (fun hHeld => ?_)
    clear hK K
    simp only [Act.put, List.setIfInBounds_toArray, List.set_cons_zero, List.set_cons_succ]
    refine wpAnyH_ready (rs := [7]) (by kernel_rfl) (by simp) ?_
    refine AllReadyH.cons (o := { dst := none, op := Op.store 46 (Operand.tmp 7) (Operand.tmp 40), type := 0, pos := "packet.go:81", after := #[{ on := 6, ground := Ground.data }, { on := 5, ground := Ground.data }, { on := 0, ground := Ground.phase }, { on := 1, ground := Ground.phase }, { on := 2, ground := Ground.phase }, { on := 3, ground := Ground.phase }, { on := 4, ground := Ground.phase }, { on := 5, ground := Ground.phase }, { on := 6, ground := Ground.phase }], guard := none }) rfl (fun K hK => ?_) AllReadyH.nil
    refine step_skip rfl (reader_store _ _ _ _ _ _ _ q (some ⟨bl, off + hd, none⟩) (sz - hd) (cap - hd) w3.drew rfl rfl) ?_
    refine hK.out _ _ ((unhide HPd).below ((Below.refl _ _).alloc (Nat.le_refl _) _)).range (fun hHeld => ?_)
    clear hK K
    simp only [Act.put]
    refine wpAnyH_done (by kernel_rfl) ?_ _
    refine NoPanic.normal ?_
    have hR : w3.drew.heap.size = w3.heap.size := rfl
    have HPR := hide (rdc_pk w3.drew q (some ⟨bl, off + hd, none⟩) (sz - hd) (cap - hd))
    have HRS := hide (rdc_rs w3 w3.drew q (some ⟨bl, off + hd, none⟩) (sz - hd) (cap - hd) ((l.drop hd).take (sz - hd)) (unhide HBY) (bel_drew w3))
    have HPA : Hid (Pk (w3.drew.alloc (.cells (rdc q (some ⟨bl, off + hd, none⟩) (sz - hd) (cap - hd)) 46)) w.heap.size q) := (unhide HPd).below ((Below.refl _ _).alloc (Nat.le_refl _) _)
    have HBA : Hid (Below w.heap.size w (w3.drew.alloc (.cells (rdc q (some ⟨bl, off + hd, none⟩) (sz - hd) (cap - hd)) 46))) := (unhide HBd).trans (((Below.refl _ _).alloc (Nat.le_refl _) _).mono (unhide HBd).size)
    have hAR : w.heap.size < w3.heap.size := (unhide HP3).lt
    have hWs : w3.heap.size < (w3.drew.alloc (.cells (rdc q (some ⟨bl, off + hd, none⟩) (sz - hd) (cap - hd)) 46)).heap.size := by simp
    rw [hR] at HPR HRS
    generalize w3.drew.alloc (.cells (rdc q (some ⟨bl, off + hd, none⟩) (sz - hd) (cap - hd)) 46) = w4 at HPR HRS HPA HBA hWs ⊢
    clear HPd HBd hHeld hR HP3
    go_wp2_with fail
    refine ((unhide HPK) _ (unhide HRS) (unhide HPR)).mono ?_
    rintro e w5 ⟨rfl, p', P', st', hp5, hM5, hs5, h5, hx5⟩
    have HP5 := hide hp5
    have HS5 := hide h5
    have HST5 := hide hs5
    have HA5 := hide ((unhide HPA).far hx5 (Nat.ne_of_lt hAR))
    have HB5 : Hid (Below w.heap.size w w5) := (unhide HBA).trans (hx5.below (Nat.le_of_lt hAR) (unhide HBA).size)
    have hR5 : w3.heap.size < w5.heap.size := Nat.lt_of_lt_of_le hWs hx5.size
    have HM5 : Hid (Mean w5 w3.heap.size.succ p' P') := (unhide hM5).base hWs
    clear hp5 h5 hs5 hx5 hM5 HPA HBA HPR HRS HPK
    cases st' with
    | none =>
      obtain ⟨t, x, d, k, c20, hd2, he⟩ := (unhide HS5).bad
      have HE5 := hide he
      clear he
      have HDN : Hid (dnum l = 1) := (unhide HD1) (stp_none (unhide HST5))
      go_wp2_with fail
      refine (pbroken d hd2 _ k _ (unhide HE5)).mono ?_
      rintro e w6 ⟨y, rfl, hE, hb6⟩
      have HP6 := hide ((unhide HA5).below hb6)
      have HB6 : Hid (Below w.heap.size w w6) := (unhide HB5).trans (hb6.mono (unhide HB5).size)
      clear hb6
      dsimp only
      go_step
      refine wpList_store_mid rfl 30 _ _ rfl w.heap.size 0 pkz.cells.toArray rfl rfl ((unhide HP6).there _) packet_size (Pkv.ones' _) ?_
      simp only [Act.put]
      have HPS := hide ((unhide HP6).stored pkz)
      have HBS : Hid (Below w.heap.size w (w6.setCells w.heap.size 0 pkz.cells)) := setCells_below (unhide HB6) (Nat.le_refl _)
      have HES : Hid (ErP (w6.setCells w.heap.size 0 pkz.cells) (.iface 64 y) 1) := erp_cells (unhide hE) (unhide HP6).dup
      generalize w6.setCells w.heap.size 0 pkz.cells = wS at HPS HBS HES ⊢
      go_wp2
      refine bodyPost_ret (res_pk3 (B := w.heap.size) (q := pkz) rfl rfl (unhide HPS)) rfl ?_
      exact dec_bad l w _ y 1 (unhide HDN) (by decide) HES (unhide HBS)
    | some l' =>
      have hds := stp_some (unhide HST5)
      have HDN : Hid (dnum l = 0) := (unhide HD0) hds
      have HDS := hide hds
      clear hds
      obtain ⟨_, _, c20⟩ | ⟨hno, _⟩ := (unhide HS5).err
      · go_upto_region 13 with fail
        iterate 4 go_step
        refine wpList_load_mid rfl 30 _ rfl w3.heap.size 0 rfl p'.cells _ (unhide HP5).range Tryz.underlying30 rfl packet_size ?_
        simp only [Act.put, List.setIfInBounds_toArray, List.set_cons_zero, List.set_cons_succ]
        iterate 3 go_step
        refine wpList_store_mid rfl 30 _ _ rfl w.heap.size 0 p'.cells.toArray rfl rfl ((unhide HA5).there _) packet_size (Pkv.ones' _) ?_
        simp only [Act.put]
        have HPS := hide ((unhide HA5).stored p')
        have HBS : Hid (Below w.heap.size w (w5.setCells w.heap.size 0 p'.cells)) := setCells_below (unhide HB5) (Nat.le_refl _)
        have HMS : Hid (Mean (w5.setCells w.heap.size 0 p'.cells) w.heap.size p' P') := ((unhide HM5).cells (Nat.lt_succ_of_lt hAR)).base (Nat.le_succ_of_le (Nat.le_of_lt hAR))
        generalize w5.setCells w.heap.size 0 p'.cells = w6 at HPS HBS HMS ⊢
        clear c20
        go_wp2
        refine bodyPost_ret (res_pk3 (B := w.heap.size) (q := p') rfl rfl (unhide HPS)) rfl ?_
        exact ⟨p', sz, .nilIface, rfl, .inr ⟨unhide HDN, (unhide HSZ), rfl, P', l', (unhide HDB).trans (unhide HDS), HMS⟩, unhide HBS⟩
      · cases hno
end Go.Proofs.YtgdfnopnmdjklaaGreatDoor.K
/- Proved here: packet.Decode at any bytes. Helper contracts. -/
namespace Go.Proofs.YtgdfnopnmdjklaaGreatDoor.K
open Go.RowKit

theorem decode_any (v : Value) (l : List Int) (w : World) (h : Byt w v l) : Calls Tryz.prog 4 #[v] w (DecPost l w) := by
  by_cases hl : l = []
  · subst hl
    obtain ⟨ao, cap, rfl, _⟩ := h.form
    exact dec_nil ao cap w
  · obtain ⟨b, off, cap, rfl, _⟩ := h.form1 (List.length_pos_iff.2 hl)
    cases hok : bok (l.getD 0 0)
    · exact dec_flag b off cap l w h hl hok
    · by_cases hm : (meas l).2.2 = 0
      · exact dec_body b off cap l w h hl hok hm
      · exact dec_meas b off cap l w h hl hok hm
end Go.Proofs.YtgdfnopnmdjklaaGreatDoor.K
/- Proved here: packet's writer: fail, must, room as steps that write into the writer's own cells. Helper contracts. -/
namespace Go.Proofs.YtgdfnopnmdjklaaGreatDoor.K
open Go.RowKit
set_option maxRecDepth 100000

/-- the writer at the block W: its bytes, how many were counted, the error -/
def Wtr (w : World) (W : Nat) (bv : Value) (sz : Int) (E : Value) : Prop := (w.cell? ⟨W, 19, none⟩ = some bv ∧ w.frozen? ⟨W, 19, none⟩ = false) ∧ (w.cell? ⟨W, 20, none⟩ = some (.int .i64 sz) ∧ w.frozen? ⟨W, 20, none⟩ = false) ∧ w.cell? ⟨W, 21, none⟩ = some E ∧ w.frozen? ⟨W, 21, none⟩ = false
abbrev is20 (j : Nat) : Prop := j = 20
abbrev is21 (j : Nat) : Prop := j = 21
theorem Wtr.setE {w : World} {W : Nat} {bv E u : Value} {sz : Int} (h : Wtr w W bv sz E) : Wtr (w.setCell ⟨W, 21, none⟩ u) W bv sz u := by
  obtain ⟨⟨a1, a2⟩, ⟨b1, b2⟩, c1, c2⟩ := h
  exact ⟨⟨(World.cell?_setCell_other _ _ _ _ (by intro e; simp at e)).trans a1, by simpa using a2⟩, ⟨(World.cell?_setCell_other _ _ _ _ (by intro e; simp at e)).trans b1, by simpa using b2⟩, World.cell?_setCell_same _ _ _ c1, by simpa using c2⟩
theorem Wtr.setS {w : World} {W : Nat} {bv E : Value} {sz s' : Int} (h : Wtr w W bv sz E) : Wtr (w.setCell ⟨W, 20, none⟩ (.int .i64 s')) W bv s' E := by
  obtain ⟨⟨a1, a2⟩, ⟨b1, b2⟩, c1, c2⟩ := h
  exact ⟨⟨(World.cell?_setCell_other _ _ _ _ (by intro e; simp at e)).trans a1, by simpa using a2⟩, ⟨World.cell?_setCell_same _ _ _ b1, by simpa using b2⟩, (World.cell?_setCell_other _ _ _ _ (by intro e; simp at e)).trans c1, by simpa using c2⟩
theorem wfail_new (W : Nat) (bv : Value) (sz : Int) (t : TypeId) (x : Value) (w : World) (h : Wtr w W bv sz .nilIface) : Calls Tryz.prog 84 #[.pointer (some ⟨W, 0, none⟩), .iface t x] w fun e w' => e = .returned (.tuple #[]) ∧ Wtr w' W bv sz (.iface t x) ∧ BX W is21 w w' := by
  have HW := hide h
  obtain ⟨-, -, c1, c2⟩ := h
  go_enter Tryz.func84, Tryz.ntmps84
  go_wp2
  go_end0
  exact ⟨rfl, (unhide HW).setE, (BX.refl _ _ _).set 21 _ rfl⟩
theorem wfail_nil (W : Nat) (bv : Value) (sz : Int) (w : World) (h : Wtr w W bv sz .nilIface) : Calls Tryz.prog 84 #[.pointer (some ⟨W, 0, none⟩), .nilIface] w fun e w' => e = .returned (.tuple #[]) ∧ Wtr w' W bv sz .nilIface ∧ BX W is21 w w' := by
  have HW := hide h
  obtain ⟨-, -, c1, c2⟩ := h
  go_enter Tryz.func84, Tryz.ntmps84
  go_wp2
  go_end0
  exact ⟨rfl, (unhide HW).setE, (BX.refl _ _ _).set 21 _ rfl⟩
theorem wfail_old (W : Nat) (bv E : Value) (sz : Int) (t : TypeId) (x : Value) (w : World) (h : Wtr w W bv sz (.iface t x)) : Calls Tryz.prog 84 #[.pointer (some ⟨W, 0, none⟩), E] w fun e w' => e = .returned (.tuple #[]) ∧ w' = w := by
  obtain ⟨-, -, c1, c2⟩ := h
  go_enter Tryz.func84, Tryz.ntmps84
  go_wp2
  go_end0
  exact ⟨rfl, rfl⟩
theorem wmust_true (W : Nat) (w : World) : Calls Tryz.prog 58 #[.pointer (some ⟨W, 0, none⟩), .bool true] w fun e w' => e = .returned (.tuple #[]) ∧ w' = w := by
  go_enter Tryz.func58, Tryz.ntmps58
  go_wp2
  go_end0
  exact ⟨rfl, rfl⟩
theorem wmust_new (W : Nat) (bv : Value) (sz : Int) (w : World) (h : Wtr w W bv sz .nilIface) : Calls Tryz.prog 58 #[.pointer (some ⟨W, 0, none⟩), .bool false] w fun e w' => e = .returned (.tuple #[]) ∧ Wtr w' W bv sz (.iface 40 (.int .i64 1)) ∧ BX W is21 w w' := by
  have HR := hide h
  clear h
  go_enter Tryz.func58, Tryz.ntmps58
  go_wp2_with fail
  refine (wfail_new W bv sz _ _ w (unhide HR)).mono ?_
  rintro e w' ⟨rfl, hr, hx⟩
  have H1 := hide hr
  have H2 := hide hx
  clear hr hx
  go_wp2
  go_end0
  exact ⟨rfl, unhide H1, unhide H2⟩
theorem wmust_old (W : Nat) (bv : Value) (sz : Int) (t : TypeId) (x : Value) (w : World) (h : Wtr w W bv sz (.iface t x)) : Calls Tryz.prog 58 #[.pointer (some ⟨W, 0, none⟩), .bool false] w fun e w' => e = .returned (.tuple #[]) ∧ w' = w := by
  have HR := hide h
  clear h
  go_enter Tryz.func58, Tryz.ntmps58
  go_wp2_with fail
  refine (wfail_old W bv _ sz t x w (unhide HR)).mono ?_
  rintro e w' ⟨rfl, hw⟩
  obtain rfl := hw.symm
  clear hw
  go_wp2
  go_end0
  exact ⟨rfl, rfl⟩
theorem room_any (W : Nat) (bv E : Value) (sz n : Int) (w : World) (h : Wtr w W bv sz E) (h0 : 0 ≤ sz) (h1 : sz ≤ 4611686018427387904) (h2 : 0 ≤ n) (h3 : n ≤ 4611686018427387904 - 1) : Calls Tryz.prog 80 #[.pointer (some ⟨W, 0, none⟩), .int .i64 n] w fun e w' => e = .returned (.bool (decide (sz + n ≤ 65536))) ∧ Wtr w' W bv (sz + n) E ∧ BX W is20 w w' := by
  have HW := hide h
  obtain ⟨-, ⟨b1, b2⟩, -, -⟩ := h
  have hs : (w.setCell ⟨W, 20, none⟩ (.int .i64 (sz + n))).cell? ⟨W, 20, none⟩ = some (.int .i64 (sz + n)) := World.cell?_setCell_same _ _ _ b1
  go_enter Tryz.func80, Tryz.ntmps80
  go_wp2
  go_ret
  exact ⟨rfl, (unhide HW).setS, (BX.refl _ _ _).set 20 _ rfl⟩
end Go.Proofs.YtgdfnopnmdjklaaGreatDoor.K
/- Proved here: packet.Encode tells a ping's two bytes. Helper contracts. -/
namespace Go.Proofs.YtgdfnopnmdjklaaGreatDoor.K
open Go.RowKit
set_option maxRecDepth 100000

abbrev pkp : Pkv := pk0 12 false 0 false
set_option maxHeartbeats 2000000 in
theorem empty_ping (w : World) : Calls Tryz.prog 59 #[.agg pkp.cells.toArray] w fun e w' => e = .returned (.bool true) ∧ Below w.heap.size w w' := by
  have hz : bits .or .i64 0 0 = 0 := by kernel_rfl
  show Calls Tryz.prog 59 #[.agg #[.int .i64 12, .bool false, .int .i64 0, .bool false, .string ⟨#[]⟩, .int .i64 0, .string ⟨#[]⟩, .slice none 0 0, .string ⟨#[]⟩, .bool false, .int .i64 0, .slice none 0 0, .slice none 0 0, .slice none 0 0, .int .i64 0, .bool false, .slice none 0 0, .slice none 0 0, .slice none 0 0]] w _
  go_enter Tryz.func59, Tryz.ntmps59
  go_wp2
  go_ret
  exact ⟨rfl, by go_grown⟩
set_option maxHeartbeats 2000000 in
theorem wpacket_ping (W : Nat) (w : World) (hp : Pk w W pkp) : Calls Tryz.prog 28 #[.pointer (some ⟨W, 0, none⟩)] w fun e w' => e = .returned (.tuple #[]) ∧ Below w.heap.size w w' := by
  have c0 : w.cell? ⟨W, 0, none⟩ = some (.int .i64 12) := hp.kind
  have HP := hide hp
  clear hp
  go_enter Tryz.func28, Tryz.ntmps28
  go_upto_region 25 with fail
  iterate 13 go_step
  refine wpList_load_mid rfl 30 _ rfl W 0 rfl pkp.cells _ (unhide HP).range Tryz.underlying30 rfl packet_size ?_
  simp only [Act.put, List.setIfInBounds_toArray, List.set_cons_zero, List.set_cons_succ]
  go_wp2_with fail
  refine (empty_ping w).mono ?_
  rintro e w1 ⟨rfl, hb1⟩
  have HB1 := hide hb1
  clear hb1 c0
  go_wp2_with fail
  refine (wmust_true W w1).mono ?_
  rintro e w2 ⟨rfl, hw2⟩
  obtain rfl := hw2.symm
  clear hw2
  go_wp2
  go_end0
  exact ⟨rfl, unhide HB1⟩
def wrc (q : Pkv) : Array Value := #[.int .i64 q.kind, .bool q.dup, .int .i64 q.qos, .bool q.retain, .string q.topic, .int .i64 q.id, .string q.payload, q.props.val, .string q.client, .bool q.clean, .int .i64 q.keep, q.wills.val, q.user.val, q.pass.val, .int .i64 q.code, .bool q.session, q.subs.val, q.filters.val, q.codes.val, .slice none 0 0, .int .i64 0, .nilIface]
theorem writer_build (a : Act) (dst : Option Tmp) (x : Operand) (ty : TypeId) (pos : String) (after : Array Edge) (q : Pkv) (hx : a.eval x = q.val) (w : World) :
    (execOp a.eval ⟨dst, .build 62 #[(0, x)], ty, pos, after, none⟩).run Tryz.prog w = .ok (.value (.agg (wrc q))) w := by
  unfold execOp
  simp only [List.map_toArray, List.map_cons, List.map_nil, hx]
  kernel_rfl
theorem writer_alloc (ρ : Operand → Value) (dst : Option Tmp) (ty : TypeId) (pos : String) (after : Array Edge) (w : World) :
    (execOp ρ ⟨dst, .alloc 62, ty, pos, after, none⟩).run Tryz.prog w = .ok (.value (.pointer (some ⟨w.heap.size, 0, none⟩))) (w.alloc (.cells (wrc pkz) 62)) := by
  kernel_rfl
theorem writer_size : (Tryz.prog.info? 62).map (·.size) = some 22 := by kernel_rfl
theorem wrc_one (q : Pkv) : (wrc q).all (·.oneCell') = true := by
  unfold wrc
  kernel_rfl
theorem writer_store (a : Act) (dst : Option Tmp) (x y : Operand) (ty : TypeId) (pos : String) (after : Array Edge) (q : Pkv) (w : World) (hx : a.eval x = .pointer (some ⟨w.heap.size, 0, none⟩)) (hy : a.eval y = .agg (wrc q)) :
    (execOp a.eval ⟨dst, .store 62 x y, ty, pos, after, none⟩).run Tryz.prog (w.alloc (.cells (wrc pkz) 62)) = .ok .skip (w.alloc (.cells (wrc q) 62)) := by
  show Sem.run Tryz.prog (do Instr.storeAt 62 (a.eval x) (a.eval y); pure Next.skip) _ = _
  rw [hx, hy]
  simp only [Sem.run_bind]
  rw [run_storeAt_new w 62 (wrc pkz) (wrc q) (by rw [writer_size]; rfl) rfl (wrc_one q)]
  rfl
theorem wrc_cell {w : World} {q : Pkv} (j : Nat) (v : Value) (h : (wrc q)[j]? = some v) : (w.alloc (.cells (wrc q) 62)).cell? ⟨w.heap.size, j, none⟩ = some v := by
  have k := heap_alloc_new w (.cells (wrc q) 62)
  unfold World.cell?
  dsimp only
  rw [k]
  simpa using h
theorem wrc_pk (w : World) (q : Pkv) : Pk (w.alloc (.cells (wrc q) 62)) w.heap.size q := fun j hj => by
  refine ⟨wrc_cell j _ ?_, by simp⟩
  rw [← cells_get q j hj]
  match j, hj with
  | 0, _ => rfl
  | 1, _ => rfl
  | 2, _ => rfl
  | 3, _ => rfl
  | 4, _ => rfl
  | 5, _ => rfl
  | 6, _ => rfl
  | 7, _ => rfl
  | 8, _ => rfl
  | 9, _ => rfl
  | 10, _ => rfl
  | 11, _ => rfl
  | 12, _ => rfl
  | 13, _ => rfl
  | 14, _ => rfl
  | 15, _ => rfl
  | 16, _ => rfl
  | 17, _ => rfl
  | 18, _ => rfl
  | n + 19, h => exact absurd h (by omega)
set_option maxHeartbeats 4000000 in
theorem enc_ping (w : World) : Calls Tryz.prog 13 #[pkp.val] w fun e w' => ∃ v, e = .returned (.tuple #[v, .nilIface]) ∧ Hid (Byt w' v [192, 0]) ∧ Below w.heap.size w w' := by
  have HPN := hide (pk_new w pkp)
  have HBN : Hid (Below w.heap.size w (w.alloc (.cells pkp.cells.toArray 30))) := (Below.refl _ _).alloc (Nat.le_refl _) _
  have hk : IntKind.i64.wrap (12 * 16) = 192 := by kernel_rfl
  have hz : bits .or .i64 192 0 = 192 := by kernel_rfl
  show Calls Tryz.prog 13 #[.agg #[.int .i64 12, .bool false, .int .i64 0, .bool false, .string ⟨#[]⟩, .int .i64 0, .string ⟨#[]⟩, .slice none 0 0, .string ⟨#[]⟩, .bool false, .int .i64 0, .slice none 0 0, .slice none 0 0, .slice none 0 0, .int .i64 0, .bool false, .slice none 0 0, .slice none 0 0, .slice none 0 0]] w _
  go_enter Tryz.func13, Tryz.ntmps13
  go_upto_region 1 with fail
  go_step
  refine wpList_load_mid rfl 30 _ rfl w.heap.size 0 rfl pkp.cells _ (unhide HPN).range Tryz.underlying30 rfl packet_size ?_
  simp only [Act.put, List.setIfInBounds_toArray, List.set_cons_zero, List.set_cons_succ]
  go_wp2_with fail
  have HFF : Calls Tryz.prog 16 #[.agg pkp.cells.toArray] (w.alloc (.cells pkp.cells.toArray 30)) fun e w' => e = .returned (.tuple #[.int .i64 0, .bool true]) ∧ Below (w.alloc (.cells pkp.cells.toArray 30)).heap.size (w.alloc (.cells pkp.cells.toArray 30)) w' := flagsOf_other pkp _ (by decide) (by decide) (by decide) (by decide)
  refine HFF.mono ?_
  rintro e w1 ⟨rfl, hb1⟩
  have HP1 := hide ((unhide HPN).below hb1)
  have HB1 : Hid (Below w.heap.size w w1) := (unhide HBN).trans (hb1.mono (unhide HBN).size)
  have c0 : w1.cell? ⟨w.heap.size, 0, none⟩ = some (.int .i64 12) := (unhide HP1).kind
  have hAl : w.heap.size < w1.heap.size := cell_lt c0
  clear hb1 HPN HBN
  go_upto_region 4 with fail
  go_step
  refine wpList_load_mid rfl 30 _ rfl w.heap.size 0 rfl pkp.cells _ (unhide HP1).range Tryz.underlying30 rfl packet_size ?_
  simp only [Act.put, List.setIfInBounds_toArray, List.set_cons_zero, List.set_cons_succ]
  refine Go.Proofs.YtgdfnopnmdjklaaGreatDoor.wpList_value rfl (writer_build _ _ _ _ _ _ pkp rfl _) ?_
  simp only [Act.put, List.setIfInBounds_toArray, List.set_cons_zero, List.set_cons_succ]
  refine Go.Proofs.YtgdfnopnmdjklaaGreatDoor.wpList_value rfl (writer_alloc _ _ _ _ _ _) ?_
  simp only [Act.put, List.setIfInBounds_toArray, List.set_cons_zero, List.set_cons_succ]
  refine Go.Proofs.YtgdfnopnmdjklaaGreatDoor.wpList_skip rfl (writer_store _ _ _ _ _ _ _ pkp w1 rfl rfl) ?_
  simp only [Act.put]
  have HPW := hide (wrc_pk w1 pkp)
  have c19 : (w1.alloc (.cells (wrc pkp) 62)).cell? ⟨w1.heap.size, 19, none⟩ = some (.slice none 0 0) := wrc_cell 19 _ rfl
  have c20 : (w1.alloc (.cells (wrc pkp) 62)).cell? ⟨w1.heap.size, 20, none⟩ = some (.int .i64 0) := wrc_cell 20 _ rfl
  have c21 : (w1.alloc (.cells (wrc pkp) 62)).cell? ⟨w1.heap.size, 21, none⟩ = some .nilIface := wrc_cell 21 _ rfl
  have d0 : (w1.alloc (.cells (wrc pkp) 62)).cell? ⟨w.heap.size, 0, none⟩ = some (.int .i64 12) := (World.cell?_alloc_lt _ _ ⟨w.heap.size, 0, none⟩ hAl).trans c0
  have HB2 : Hid (Below w.heap.size w (w1.alloc (.cells (wrc pkp) 62))) := (unhide HB1).trans (((Below.refl _ _).alloc (Nat.le_refl _) _).mono (unhide HB1).size)
  have hWl : w1.heap.size < (w1.alloc (.cells (wrc pkp) 62)).heap.size := by simp
  generalize w1.alloc (.cells (wrc pkp) 62) = w2 at HPW c19 c20 c21 d0 HB2 hWl ⊢
  clear c0 HP1 HB1
  go_wp2_with fail
  refine (wpacket_ping w1.heap.size w2 (unhide HPW)).mono ?_
  rintro e w3 ⟨rfl, hb3⟩
  have e19 := (hb3.cell (p := ⟨w1.heap.size, 19, none⟩) hWl).trans c19
  have e20 := (hb3.cell (p := ⟨w1.heap.size, 20, none⟩) hWl).trans c20
  have e21 := (hb3.cell (p := ⟨w1.heap.size, 21, none⟩) hWl).trans c21
  have e0 := (hb3.cell (p := ⟨w.heap.size, 0, none⟩) (Nat.lt_trans hAl hWl)).trans d0
  have HB3 : Hid (Below w.heap.size w w3) := (unhide HB2).trans (hb3.mono (unhide HB2).size)
  have hWl3 : w1.heap.size < w3.heap.size := Nat.lt_of_lt_of_le hWl hb3.size
  clear hb3 c19 c20 c21 d0 HB2 HPW hWl
  go_wp2_with fail
  refine (vput_use 0 w3 (by decide) (by decide)).mono ?_
  rintro e w4 ⟨v, rfl, hO4, hy4, hb4⟩
  have f19 := (hb4.cell (p := ⟨w1.heap.size, 19, none⟩) hWl3).trans e19
  have f20 := (hb4.cell (p := ⟨w1.heap.size, 20, none⟩) hWl3).trans e20
  have f0 := (hb4.cell (p := ⟨w.heap.size, 0, none⟩) (Nat.lt_trans hAl hWl3)).trans e0
  have HB4 : Hid (Below w.heap.size w w4) := (unhide HB3).trans (hb4.mono (unhide HB3).size)
  have hWl4 : w1.heap.size < w4.heap.size := Nat.lt_of_lt_of_le hWl3 hb4.size
  have HY4 : Hid (Byt w4 v [0]) := unhide hy4
  obtain ⟨bo, off, cap, hvf, hc1, hc2⟩ := (unhide HY4).form1 (by decide)
  have hvf : v = .slice (some ⟨bo, off, none⟩) 1 cap := hvf
  subst hvf
  clear hb4 e19 e20 e21 e0 HB3 hO4 hy4
  have HO5 : Hid ((w4.alloc (.cells #[.int .u8 192] 5)).ownsRow w4.heap.size 5 1 (.slice (some ⟨w4.heap.size, 0, none⟩) 1 1) 1 (([192] : List Int).map (Value.int .u8))) :=
    ⟨rfl, .inr ⟨w4.heap.size, 1, _, rfl, Nat.le_refl _, heap_alloc_new _ _, Nat.le_refl _, by unfold maxLen; simp, rfl, rfl⟩⟩
  have HY5 : Hid (Byt (w4.alloc (.cells #[.int .u8 192] 5)) (.slice (some ⟨bo, off, none⟩) 1 cap) [0]) := (unhide HY4).below ((Below.refl _ _).alloc (Nat.le_refl _) _)
  go_wp2_with (first
    | (at_builtin; refine wpList_append_byt _ rfl _ _ rfl w4.heap.size _ 1 [192] rfl (unhide HO5) (.slice (some ⟨bo, off, none⟩) 1 cap) [0] rfl (unhide HY5) (by decide) (by simp) ?_)
    | go_in)
  intro v6 w6 hown6 hgrow6
  have hrow : ∀ g, (Value.slice (some ⟨w4.heap.size, 0, none⟩) 1 1).ownBlock = some g → g = w4.heap.size := fun g hg => by cases hg; rfl
  have g19 : w6.cell? ⟨w1.heap.size, 19, none⟩ = some (.slice none 0 0) := hgrow6.cell ((World.cell?_alloc_lt _ _ ⟨w1.heap.size, 19, none⟩ hWl4).trans f19) (fun e => by have := hrow _ e.symm; simp at this; omega)
  have HO6 : Hid (w6.ownsRow w4.heap.size 5 1 v6 2 (([192, 0] : List Int).map (Value.int .u8))) := hown6
  have hs6 : w4.heap.size ≤ w6.heap.size := Nat.le_trans (by simp) hgrow6.size
  have HB6 : Hid (Below w.heap.size w w6) := ((unhide HB4).trans (((Below.refl _ _).alloc (Nat.le_refl _) _).mono (unhide HB4).size)).grown hgrow6 (Nat.le_trans (unhide HB4).size (by simp)) (fun g hg => by rw [hrow g hg]; exact (unhide HB4).size)
  have HYN : Hid (Byt w6 (.slice none 0 0) []) := ⟨none, 0, rfl, ⟨by simp, by simp⟩, by intro j; simp, .inl rfl⟩
  clear hown6 hgrow6 hrow f19 f20 f0 HO5 HY5 HY4
  go_wp2_with (first
    | (at_builtin; refine wpList_append_byt _ rfl _ _ rfl w4.heap.size _ 2 [192, 0] rfl (unhide HO6) (.slice none 0 0) [] rfl (unhide HYN) (by decide) hs6 ?_)
    | go_in)
  intro v7 w7 hown7 hgrow7
  have HB7 : Hid (Below w.heap.size w w7) := (unhide HB6).grown hgrow7 (unhide HB6).size (fun g hg => Nat.le_trans (unhide HB4).size ((unhide HO6).lt g hg).1)
  have HY7 : Hid (Byt w7 v7 [192, 0]) := byt_of_owns hown7 (by intro j; match j with | 0 => simp | 1 => simp | n + 2 => simp)
  clear hown7 hgrow7 g19
  go_wp2
  go_returns
  exact ⟨v7, rfl, HY7, unhide HB7⟩
end Go.Proofs.YtgdfnopnmdjklaaGreatDoor.K
/- Proved here: dovecoteref0.EqBytes tells whether two byte slices hold the same bytes. Helper contract. -/
namespace Go.Proofs.YtgdfnopnmdjklaaGreatDoor
open Go.RowKit

theorem eq_len (ao bo : Option Addr) (n m ca cb : Nat) (w : World) (h : n ≠ m) :
    Calls Tryz.prog 14 #[.slice ao n ca, .slice bo m cb] w fun e w' => e = .returned (.bool false) ∧ w' = w := by
  have h1 : ((n : Int) == (m : Int)) = false := beq_eq_false_iff_ne.2 (by omega)
  go_enter Tryz.func14, Tryz.ntmps14
  go_wp2
  go_ret
  exact ⟨rfl, rfl⟩

theorem eq_nil (ao bo : Option Addr) (ca cb : Nat) (w : World) :
    Calls Tryz.prog 14 #[.slice ao 0 ca, .slice bo 0 cb] w fun e w' => e = .returned (.bool true) ∧ w' = w := by
  go_enter Tryz.func14, Tryz.ntmps14
  go_wp2
  refine wp_loop_rounds 1 ?_
  rw [rounds_succ]
  go_wp2
  go_ret
  exact ⟨rfl, rfl⟩

set_option maxHeartbeats 1000000 in
theorem eq_core (ba oa bb ob n ca cb : Nat) (f g : Nat → Int) (w : World) (hn : n ≤ maxLen)
    (hf : ∀ j, j < n → w.cell? ⟨ba, oa + j, none⟩ = some (.int .u8 (f j))) (hg : ∀ j, j < n → w.cell? ⟨bb, ob + j, none⟩ = some (.int .u8 (g j))) :
    Calls Tryz.prog 14 #[.slice (some ⟨ba, oa, none⟩) n ca, .slice (some ⟨bb, ob, none⟩) n cb] w fun e w' => (∃ b, e = .returned (.bool b) ∧ (b = true ↔ ∀ j, j < n → f j = g j)) ∧ ∃ k, w' = w.drewN k := by
  unfold maxLen at hn
  have HF := hide hf
  have HG := hide hg
  clear hf hg
  go_enter Tryz.func14, Tryz.ntmps14
  go_wp2
  go_loopw [5] (fun i wr => ∃ k q : Nat, k ≤ n ∧ i = .int .i64 k ∧ wr = w.drewN q ∧ ∀ j, j < k → f j = g j) (fun i _ => n - (intOf i).toNat)
  case atStart => exact ⟨0, 0, Nat.zero_le _, rfl, rfl, fun j hj => absurd hj (Nat.not_lt_zero j)⟩
  case round =>
    obtain ⟨k, q, hk, rfl, rfl, hall⟩ := hrel
    have HA := hide hall
    clear hall
    by_cases hlt : k < n
    · have hfk := (unhide HF) k hlt
      have hgk := (unhide HG) k hlt
      generalize hx : f k = x at hfk
      generalize hy : g k = y at hgk
      have HX := hide hx
      have HY := hide hy
      clear hx hy
      by_cases hxy : x = y
      · have hb : (x == y) = true := beq_iff_eq.2 hxy
        have HE := hide hxy
        clear hxy
        go_wp2
        go_quiet (fail)
        go_wp2
        go_roundw
        case rel => exact ⟨k + 1, _, by omega, by go_num, rfl, fun j hj => by
          rcases Nat.lt_succ_iff_lt_or_eq.1 hj with h | h
          · exact (unhide HA) j h
          · rw [h, unhide HX, unhide HY]; exact unhide HE⟩
        case measure => simp [intOf]; omega
      · have hb : (x == y) = false := beq_eq_false_iff_ne.2 hxy
        go_wp2
        go_quiet (fail)
        go_wp2
        go_ret
        refine ⟨⟨_, rfl, ?_⟩, q + nq, drewN_drewN _ _ _⟩
        constructor
        · intro h; cases h
        · intro h; exact absurd ((unhide HX).symm.trans ((h k hlt).trans (unhide HY))) hxy
    · go_wp2
      go_ret
      exact ⟨⟨_, rfl, fun _ j hj => (unhide HA) j (by omega), fun _ => rfl⟩, _, rfl⟩

theorem eq_any (va vb : Value) (xs ys : List Int) (w : World) (ha : Byt w va xs) (hb : Byt w vb ys) :
    Calls Tryz.prog 14 #[va, vb] w fun e w' => e = .returned (.bool (decide (xs = ys))) ∧ ∃ k, w' = w.drewN k := by
  obtain ⟨ao, ca, rfl, hla, _, ha⟩ := ha
  obtain ⟨bo, cb, rfl, _, _, hb⟩ := hb
  by_cases hl : xs.length = ys.length
  · rcases ha with rfl | ⟨ba, oa, rfl, hca⟩
    · have hb0 : ys = [] := List.length_eq_zero_iff.1 hl.symm
      subst hb0
      refine (eq_nil _ _ _ _ _).mono ?_
      rintro e w' ⟨rfl, rfl⟩
      exact ⟨by simp, 0, rfl⟩
    · rcases hb with rfl | ⟨bb, ob, rfl, hcb⟩
      · have ha0 : xs = [] := List.length_eq_zero_iff.1 hl
        subst ha0
        refine (eq_nil _ _ _ _ _).mono ?_
        rintro e w' ⟨rfl, rfl⟩
        exact ⟨by simp, 0, rfl⟩
      · rw [← hl] at hcb ⊢
        refine (eq_core ba oa bb ob xs.length ca cb (fun j => xs.getD j 0) (fun j => ys.getD j 0) w (Nat.le_trans hla.1 hla.2) hca hcb).mono ?_
        rintro e w' ⟨⟨b, rfl, hbb⟩, k, rfl⟩
        refine ⟨?_, k, rfl⟩
        have : (b = true) ↔ xs = ys := by
          rw [hbb]
          constructor
          · intro h
            apply List.ext_getElem hl
            intro i h1 h2
            have := h i h1
            rw [List.getD_eq_getElem?_getD, List.getD_eq_getElem?_getD, List.getElem?_eq_getElem h1, List.getElem?_eq_getElem h2] at this
            exact this
          · rintro rfl j _; rfl
        rw [show b = decide (xs = ys) from by rw [Bool.eq_iff_iff, this]; simp]
  · refine (eq_len ao bo xs.length ys.length ca cb w hl).mono ?_
    rintro e w' ⟨rfl, rfl⟩
    refine ⟨?_, 0, rfl⟩
    rw [show decide (xs = ys) = false from decide_eq_false (fun h => hl (by rw [h]))]
end Go.Proofs.YtgdfnopnmdjklaaGreatDoor
/- Proved here: dovecotelaw4's num and wakes. Helper contracts. -/
namespace Go.Proofs.YtgdfnopnmdjklaaGreatDoor.K
open Go.RowKit
set_option maxRecDepth 100000

theorem num4 (v : Value) (n : Int) (w : World) (hg : Laid w) (hv : ErrX w v n) : Calls Tryz.prog 5 #[v] w fun e w' => e = .returned (.int .i64 n) ∧ Below w.heap.size w w' := by
  have HG := hide hg
  have HV := hide hv
  clear hg hv
  go_enter Tryz.func5, Tryz.ntmps5
  go_wp2_with (go_at_call 12; refine (numx v n _ (unhide HG) (unhide HV)).mono ?_; rintro e w' ⟨rfl, hb⟩)
  go_ret
  exact ⟨rfl, hb⟩
theorem num4_nil (w : World) : Calls Tryz.prog 5 #[.nilIface] w fun e w' => e = .returned (.int .i64 0) ∧ w' = w := by
  go_enter Tryz.func5, Tryz.ntmps5
  go_wp2_with (go_at_call 12; refine (num_nil _).mono ?_; rintro e w' ⟨rfl, rfl⟩)
  go_ret
  exact ⟨rfl, rfl⟩
theorem two_byt (w : World) : Byt (w.alloc (.cells #[.int .u8 192, .int .u8 0] 5)) (.slice (some ⟨w.heap.size, 0, none⟩) 2 2) [192, 0] := by
  refine ⟨_, 2, rfl, ⟨by simp, by unfold maxLen; simp⟩, ?_, .inr ⟨w.heap.size, 0, rfl, ?_⟩⟩
  · intro j; rcases j with _ | _ | j <;> simp
  · intro j hj; rcases j with _ | _ | j
    · simp
    · simp
    · simp at hj; omega
set_option maxHeartbeats 2000000 in
theorem wakes4 (w : World) : Calls Tryz.prog 6 #[] w fun e w' => e = .returned (.bool true) ∧ Below w.heap.size w w' := by
  have HEN : Hid (∀ W : World, Calls Tryz.prog 13 #[.agg #[.int .i64 12, .bool false, .int .i64 0, .bool false, .string ⟨#[]⟩, .int .i64 0, .string ⟨#[]⟩, .slice none 0 0, .string ⟨#[]⟩, .bool false, .int .i64 0, .slice none 0 0, .slice none 0 0, .slice none 0 0, .int .i64 0, .bool false, .slice none 0 0, .slice none 0 0, .slice none 0 0]] W fun e w' => ∃ v, e = .returned (.tuple #[v, .nilIface]) ∧ Hid (Byt w' v [192, 0]) ∧ Below W.heap.size W w') := fun W => enc_ping W
  go_enter Tryz.func6, Tryz.ntmps6
  go_wp2_with fail
  refine ((unhide HEN) w).mono ?_
  rintro e w1 ⟨v, rfl, hy, hb1⟩
  have ha : Hid (Byt (w1.alloc (.cells #[.int .u8 192, .int .u8 0] 5)) v [192, 0]) := (unhide hy).below ((Below.refl _ _).alloc (Nat.le_refl _) _)
  have hbb := hide (two_byt w1)
  have HB1 := hide hb1
  clear hb1 hy
  go_wp2_with (first | (go_at_call 5; refine (num4_nil _).mono ?_; rintro e w' ⟨rfl, hw⟩; obtain rfl := hw.symm; clear hw) | (go_at_call 14; refine (eq_any _ _ [192, 0] [192, 0] _ (unhide ha) (unhide hbb)).mono ?_; rintro e w' ⟨rfl, q, rfl⟩))
  go_ret
  exact ⟨rfl, below_drewN ((unhide HB1).alloc (unhide HB1).size _) _⟩
end Go.Proofs.YtgdfnopnmdjklaaGreatDoor.K
/- Proved here: append(two bytes, make([]byte, n)...) at n = 0, 1, 2. Helpers. -/
namespace Go.Proofs.YtgdfnopnmdjklaaGreatDoor.K
open Go.RowKit
set_option maxRecDepth 100000

theorem wpList_append_run (w : World) {ops : Array Oper} {rest : List Oper} {o : Oper} {a : Act} {Q : Exit → Act → World → Prop} {Z : Value → World → Prop} (hgd : o.guard = none) (s x : Operand) (t u : TypeId)
    (ho : o.op = .call { callee := .builtin .append, args := #[s, x], argTypes := #[t, u] }) (v vx : Value) (hs : a.eval s = v) (hx : a.eval x = vx)
    (hr : ∃ v' w', (Builtin.append_ #[t, u] o.type #[v, vx]).run Tryz.prog w = .ok v' w' ∧ Z v' w')
    (h : ∀ v' w', Z v' w' → wpList Tryz.prog ops Q rest (a.put o.dst v') w') : wpList Tryz.prog ops Q (o :: rest) a w := by
  refine wpList_plain hgd fun K hK => ?_
  obtain ⟨v', w', hr, h2⟩ := hr
  unfold Oper.wp execOp
  simp only [ho, resolve, invoke, builtin, Sem.run_bind, Sem.run_pure, Result.andThen_ok, List.map_toArray, List.map_cons, List.map_nil, hs, hx, hr]
  exact hK _ _ (h v' w' h2)
theorem app0 (B : Nat) (W : World) : (Builtin.append_ #[23, 3] 23 #[.slice (some ⟨B, 0, none⟩) 2 2, .int .i64 0]).run Tryz.prog W = .ok (.slice (some ⟨B, 0, none⟩) 2 2) W := by kernel_rfl
theorem app_grow (n : Nat) (hn : n = 1 ∨ n = 2) (B : Nat) (x y : Value) (W : World) (h0 : W.cell? ⟨B, 0, none⟩ = some x) (h1 : W.cell? ⟨B, 1, none⟩ = some y) :
    (Builtin.append_ #[23, 3] 23 #[.slice (some ⟨B, 0, none⟩) 2 2, .int .i64 n]).run Tryz.prog W =
      .ok (.slice (some ⟨W.heap.size, 0, none⟩) (2 + n) (grownCap W (2 + n) 2 5)) (W.drew.alloc (.cells (#[x, y] ++ Builtin.zeroCells #[.int .u8 0] n ++ Builtin.zeroCells #[.int .u8 0] (grownCap W (2 + n) 2 5 - (2 + n))) 5)) := by
  obtain ⟨i0, hi, hz0, hz1, hz2⟩ := info_parts Tryz.infoU8
  have hf := run_firstCells_some (P := Tryz.prog) W.drew 1 2 ⟨B, 0, none⟩ 2 2 [x, y] rfl (by
    intro j v hj
    match j, hj with
    | 0, hj => simp at hj; subst hj; simpa [Addr.add] using h0
    | 1, hj => simp at hj; subst hj; simpa [Addr.add] using h1)
  have ha1 : ∀ W' : World, (asInt (.int .i64 1)).run Tryz.prog W' = .ok 1 W' := fun W' => by kernel_rfl
  have ha2 : ∀ W' : World, (asInt (.int .i64 2)).run Tryz.prog W' = .ok 2 W' := fun W' => by kernel_rfl
  have hw1 : IntKind.i64.wrap 1 = 1 := by kernel_rfl
  have hw2 : IntKind.i64.wrap 2 = 2 := by kernel_rfl
  rcases hn with rfl | rfl
  · simp [Builtin.append_, run_underlying Tryz.underlying23, run_underlying Tryz.underlying3, sizeOf, typeInfo, zeroValue, hi, hz0, hz1, hz2, Builtin.lenOf, Question.forced, hf, newRow, grownCap, Value.cells, Builtin.nextslicecap, ha1, hw1]
    intro h
    exact absurd h (by decide)
  · simp [Builtin.append_, run_underlying Tryz.underlying23, run_underlying Tryz.underlying3, sizeOf, typeInfo, zeroValue, hi, hz0, hz1, hz2, Builtin.lenOf, Question.forced, hf, newRow, grownCap, Value.cells, Builtin.nextslicecap, ha2, hw2]
    intro h
    exact absurd h (by decide)
theorem zero_cells (n : Nat) : (Builtin.zeroCells #[.int .u8 0] n).toList = (List.replicate n (0 : Int)).map (Value.int .u8) := by
  simp [Builtin.zeroCells, Nat.mod_one, List.map_const']
/-- two bytes with n zeros behind, n at most 2: as the walk appends them -/
theorem app_zeros (n : Nat) (hn : n ≤ 2) (x y : Int) (W : World) (hx : 0 ≤ x ∧ x ≤ 255) (hy : 0 ≤ y ∧ y ≤ 255) :
    ∃ v w', (Builtin.append_ #[23, 3] 23 #[.slice (some ⟨W.heap.size, 0, none⟩) 2 2, .int .i64 n]).run Tryz.prog (W.alloc (.cells #[.int .u8 x, .int .u8 y] 5)) = .ok v w' ∧ (Byt w' v (x :: y :: List.replicate n 0) ∧ Below W.heap.size W w') := by
  have c0 : (W.alloc (.cells #[.int .u8 x, .int .u8 y] 5)).cell? ⟨W.heap.size, 0, none⟩ = some (.int .u8 x) := by simp
  have c1 : (W.alloc (.cells #[.int .u8 x, .int .u8 y] 5)).cell? ⟨W.heap.size, 1, none⟩ = some (.int .u8 y) := by simp
  have hrange : ∀ j, 0 ≤ (x :: y :: List.replicate n (0 : Int)).getD j 0 ∧ (x :: y :: List.replicate n (0 : Int)).getD j 0 ≤ 255 := by
    intro j
    match j with
    | 0 => simpa using hx
    | 1 => simpa using hy
    | j + 2 =>
      simp only [List.getD_cons_succ]
      rw [List.getD_eq_getElem?_getD, List.getElem?_replicate]
      split <;> simp
  by_cases h0 : n = 0
  · subst h0
    refine ⟨_, _, app0 _ _, ⟨_, 2, rfl, ⟨by simp, by unfold maxLen; simp⟩, hrange, .inr ⟨W.heap.size, 0, rfl, fun j hj => ?_⟩⟩, (Below.refl _ _).alloc (Nat.le_refl _) _⟩
    match j, hj with
    | 0, _ => exact c0
    | 1, _ => exact c1
  · have hge := grownCap_ge (W.alloc (.cells #[.int .u8 x, .int .u8 y] 5)) (2 + n) 2 5
    have hle := grownCap_le_maxLen (W.alloc (.cells #[.int .u8 x, .int .u8 y] 5)) (2 + n) 2 5 (by unfold maxLen; omega)
    have hb1 : Below W.heap.size W (W.alloc (.cells #[.int .u8 x, .int .u8 y] 5)).drew := ((Below.refl _ _).alloc (Nat.le_refl _) _).drew
    refine ⟨_, _, app_grow n (by omega) _ _ _ _ c0 c1, ?_, hb1.alloc hb1.size _⟩
    generalize grownCap (W.alloc (.cells #[.int .u8 x, .int .u8 y] 5)) (2 + n) 2 5 = g at hge hle
    refine byt_of_owns (B := 0) (n := 2 + n) ⟨by simp; omega, .inr ⟨_, g, _, rfl, Nat.zero_le _, heap_alloc_new _ _, hge, hle, ?_, ?_⟩⟩ hrange
    · simp [Builtin.zeroCells]
      omega
    · simp only [Array.toList_append, zero_cells, List.append_assoc]
      rw [show ([.int .u8 x, .int .u8 y] : List Value) ++ ((List.replicate n (0 : Int)).map (Value.int .u8) ++ (List.replicate (g - (2 + n)) (0 : Int)).map (Value.int .u8)) = ((x :: y :: List.replicate n (0 : Int)).map (Value.int .u8)) ++ (List.replicate (g - (2 + n)) (0 : Int)).map (Value.int .u8) from by simp]
      exact List.take_left' (by simp; omega)
end Go.Proofs.YtgdfnopnmdjklaaGreatDoor.K
/- Proved here: dovecotelaw4.PacketPings, walked: it returns true and writes nothing that was there. Helper contracts. -/
namespace Go.Proofs.YtgdfnopnmdjklaaGreatDoor.K
open Go.RowKit
set_option maxRecDepth 100000

theorem packet_alloc (ρ : Operand → Value) (dst : Option Tmp) (ty : TypeId) (pos : String) (after : Array Edge) (w : World) :
    (execOp ρ ⟨dst, .alloc 30, ty, pos, after, none⟩).run Tryz.prog w = .ok (.value (.pointer (some ⟨w.heap.size, 0, none⟩))) (w.alloc (.cells pkz.cells.toArray 30)) := by
  kernel_rfl
theorem packet_store (a : Act) (dst : Option Tmp) (x y : Operand) (ty : TypeId) (pos : String) (after : Array Edge) (q : Pkv) (w : World) (hx : a.eval x = .pointer (some ⟨w.heap.size, 0, none⟩)) (hy : a.eval y = q.val) :
    (execOp a.eval ⟨dst, .store 30 x y, ty, pos, after, none⟩).run Tryz.prog (w.alloc (.cells pkz.cells.toArray 30)) = .ok .skip (w.alloc (.cells q.cells.toArray 30)) := by
  show Sem.run Tryz.prog (do Instr.storeAt 30 (a.eval x) (a.eval y); pure Next.skip) _ = _
  rw [hx, hy]
  simp only [Sem.run_bind]
  rw [show q.val = .agg q.cells.toArray from rfl, run_storeAt_new w 30 pkz.cells.toArray q.cells.toArray (by rw [packet_size]; rfl) rfl q.ones']
  rfl
theorem ping_bok (b : Int) (hk : b / 16 = 12 ∨ b / 16 = 13) : bok b = decide (b % 16 = 0) := by
  unfold bok bmay bfl
  have h3 : ¬ b / 16 = 3 := by omega
  have h6 : ¬ (b / 16 = 6 ∨ b / 16 = 8 ∨ b / 16 = 10) := by omega
  rw [if_neg h3, if_neg h3, if_neg h6, if_neg h6]
  have e1 : (decide (1 ≤ b / 16) && decide (b / 16 ≤ 15)) = true := by
    rw [decide_eq_true (by omega : 1 ≤ b / 16), decide_eq_true (by omega : b / 16 ≤ 15)]; rfl
  rw [e1, Bool.true_and]
  by_cases h : b % 16 = 0
  · rw [h]; rfl
  · rw [decide_eq_false h]
    exact beq_eq_false_iff_ne.2 (fun e => h e.symm)
theorem ping_meas (b : Int) (n : Nat) (hn : n ≤ 2) : meas (b :: (n : Int) :: List.replicate n 0) = (2, 2 + n, 0) := by
  match n, hn with
  | 0, _ => rfl
  | 1, _ => rfl
  | 2, _ => rfl
theorem ping_body (b : Int) (n : Nat) (hn : n ≤ 2) (hk : b / 16 = 12 ∨ b / 16 = 13) : dbody (b :: (n : Int) :: List.replicate n 0) = if n = 0 then some (pa0 (b / 16) false 0 false, []) else none := by
  unfold dbody
  rw [ping_meas b n hn]
  have h3 : bpa b = pa0 (b / 16) false 0 false := if_neg (by omega)
  show packet? (bpa b) _ = _
  rw [h3]
  rcases hk with h | h
  · rw [h]
    match n, hn with
    | 0, _ => rfl
    | 1, _ => rfl
    | 2, _ => rfl
  · rw [h]
    match n, hn with
    | 0, _ => rfl
    | 1, _ => rfl
    | 2, _ => rfl
theorem ping_num (b : Int) (n : Nat) (hn : n ≤ 2) (hk : b / 16 = 12 ∨ b / 16 = 13) : dnum (b :: (n : Int) :: List.replicate n 0) = if b % 16 = 0 ∧ n = 0 then 0 else 1 := by
  unfold dnum
  rw [if_neg (by simp), ping_meas b n hn, ping_body b n hn hk]
  rw [show (b :: (n : Int) :: List.replicate n 0).getD 0 0 = b from rfl, ping_bok b hk]
  by_cases h : b % 16 = 0
  · rw [decide_eq_true h]
    by_cases h0 : n = 0
    · simp [h, h0]
    · simp [h0]
  · rw [decide_eq_false h]
    simp [h]
/-- what Decode tells of two bytes and zeros -/
theorem ping_post (b : Int) (n : Nat) (hn : n ≤ 2) (hk : b / 16 = 12 ∨ b / 16 = 13) (w w' : World) (q : Pkv) (k : Nat) (E : Value)
    (h : (dnum (b :: (n : Int) :: List.replicate n 0) ≠ 0 ∧ q = pkz ∧ k = 0 ∧ Hid (ErP w' E (dnum (b :: (n : Int) :: List.replicate n 0)))) ∨ (dnum (b :: (n : Int) :: List.replicate n 0) = 0 ∧ k = (meas (b :: (n : Int) :: List.replicate n 0)).2.1 ∧ E = .nilIface ∧ ∃ P r, dbody (b :: (n : Int) :: List.replicate n 0) = some (P, r) ∧ Hid (Mean w' w.heap.size q P))) :
    (b % 16 = 0 ∧ n = 0 ∧ k = 2 ∧ q.kind = b / 16 ∧ E = .nilIface) ∨ (¬ (b % 16 = 0 ∧ n = 0) ∧ ErP w' E 1) := by
  rw [ping_num b n hn hk] at h
  by_cases hz : b % 16 = 0 ∧ n = 0
  · rw [if_pos hz] at h
    rcases h with ⟨h, _⟩ | ⟨_, h1, h2, P, r, h3, h4⟩
    · exact absurd rfl h
    · rw [ping_meas b n hn] at h1
      rw [ping_body b n hn hk, if_pos hz.2] at h3
      cases h3
      exact .inl ⟨hz.1, hz.2, by rw [h1, hz.2], (unhide h4).sc.1, h2⟩
  · rw [if_neg hz] at h
    rcases h with ⟨_, _, _, h⟩ | ⟨h, _⟩
    · exact .inr ⟨hz, unhide h⟩
    · cases h
theorem ErP.x {w : World} {E : Value} {n : Int} (h : ErP w E n) : ErrX w E n := by
  obtain ⟨x, d, _, hd, he⟩ := h
  exact .inr ⟨d, hd, he⟩
set_option maxHeartbeats 8000000 in
theorem pings_walk (ao : Option Addr) (len cap : Nat) (w : World) (hg : Laid w) : Calls Tryz.prog 3 #[.slice ao len cap] w fun e w' => e = .returned (.bool true) ∧ Below w.heap.size w w' := by
  have HG := hide hg
  have hg0 := hg.pos
  clear hg
  go_enter Tryz.func3, Tryz.ntmps3
  go_wp2
  go_loopw [3] (fun b0 wr => ∃ k : Nat, k ≤ 256 ∧ b0 = .int .i64 k ∧ Hid (Below w.heap.size w wr)) (fun b0 _ => 256 - (intOf b0).toNat)
  case atStart => exact ⟨0, by omega, rfl, Below.refl _ _⟩
  case round =>
    obtain ⟨k, hk, rfl, HB⟩ := hrel
    obtain ⟨wo, hwo⟩ : ∃ wo, wo = wr := ⟨wr, rfl⟩
    subst hwo
    by_cases hk6 : k = 256
    · subst hk6
      go_wp2_with (go_at_call 6; refine (wakes4 _).mono ?_; rintro e w' ⟨rfl, hbw⟩)
      go_ret
      exact ⟨rfl, (unhide HB).trans (hbw.mono (unhide HB).size)⟩
    · have hk7 : (k : Int) < 256 := by omega
      go_wp2
      go_loopw [4] (fun n0 wr => ∃ m : Nat, m ≤ 3 ∧ n0 = .int .i64 m ∧ Hid (Below w.heap.size w wr)) (fun n0 _ => 3 - (intOf n0).toNat)
      case atStart => exact ⟨0, by omega, rfl, HB⟩
      case round =>
        obtain ⟨m, hm, rfl, HBr⟩ := hrel
        by_cases hm3 : m = 3
        · subst hm3
          go_wp2
          go_roundw
          case rel => exact ⟨k + 1, by omega, by go_num, HBr⟩
          case measure => simp [intOf]; omega
        · have hm2 : m ≤ 2 := by omega
          have HAP := hide (app_zeros m hm2 k m wr (by omega) (by omega))
          go_wp2_with (first
            | (at_builtin; refine wpList_append_run _ rfl _ _ 23 3 rfl _ _ rfl rfl (unhide HAP) ?_)
            | go_in)
          intro v1 w1 hy1 hb1
          have HY1 := hide hy1
          have HB1 : Hid (Below w.heap.size w w1) := (unhide HBr).trans (hb1.mono (unhide HBr).size)
          clear hy1 hb1 HAP
          go_wp2_with fail
          refine (decode_any v1 _ w1 (unhide HY1)).mono ?_
          rintro e w2 ⟨q, n, E, rfl, hcase, hb2⟩
          have HC := hide hcase
          have HB2 : Hid (Below w.heap.size w w2) := (unhide HB1).trans (hb2.mono (unhide HB1).size)
          clear hcase hb2 HB1 HY1
          dsimp only
          iterate 13 go_step
          refine Go.Proofs.YtgdfnopnmdjklaaGreatDoor.wpList_value rfl (packet_alloc _ _ _ _ _ _) ?_
          simp only [Act.put, List.setIfInBounds_toArray, List.set_cons_zero, List.set_cons_succ]
          refine Go.Proofs.YtgdfnopnmdjklaaGreatDoor.wpList_skip rfl (packet_store _ _ _ _ _ _ _ q w2 rfl rfl) ?_
          simp only [Act.put]
          have HPN := pk_new w2 q
          have c0 : (w2.alloc (.cells q.cells.toArray 30)).cell? ⟨w2.heap.size, 0, none⟩ = some (.int .i64 q.kind) := HPN.kind
          have hal : Below w2.heap.size w2 (w2.alloc (.cells q.cells.toArray 30)) := (Below.refl _ _).alloc (Nat.le_refl _) _
          have HB3 : Hid (Below w.heap.size w (w2.alloc (.cells q.cells.toArray 30))) := (unhide HB2).trans (hal.mono (unhide HB2).size)
          have hlt3 : w2.heap.size < (w2.alloc (.cells q.cells.toArray 30)).heap.size := by simp
          have HAL := hide hal
          generalize w2.alloc (.cells q.cells.toArray 30) = w3 at c0 HB3 HAL hlt3 ⊢
          have HG3 : Hid (Laid w3) := (unhide HG).below (unhide HB3) hg0
          clear HPN hal
          by_cases hk1 : (k : Int) / 16 = 12 ∨ (k : Int) / 16 = 13
          · rcases ping_post k m hm2 hk1 w1 w2 q n E (unhide HC) with ⟨h1, h2, h3, h4, h5⟩ | ⟨h1, h2⟩
            · subst h2 h3 h5
              clear HC
              rcases hk1 with hk2 | hk2
              · have a1 : ((k : Int) / 16 != 12) = false := by simp [hk2]
                have a3 : bits .and .i64 (k : Int) 15 = 0 := by rw [and15 k (by omega) (by omega)]; exact h1
                rw [hk2] at h4
                rw [h4] at c0
                go_wp2_with (go_at_call 5; refine (num4_nil _).mono ?_; rintro e wn ⟨rfl, hwn⟩; obtain rfl := hwn.symm; clear hwn)
                go_roundw
                case rel => exact ⟨1, by omega, by go_num, HB3⟩
                case measure => simp [intOf]
              · have a1 : ((k : Int) / 16 != 12) = true := by simp [hk2]
                have a2 : ((k : Int) / 16 != 13) = false := by simp [hk2]
                have a3 : bits .and .i64 (k : Int) 15 = 0 := by rw [and15 k (by omega) (by omega)]; exact h1
                rw [hk2] at h4
                rw [h4] at c0
                go_wp2_with (go_at_call 5; refine (num4_nil _).mono ?_; rintro e wn ⟨rfl, hwn⟩; obtain rfl := hwn.symm; clear hwn)
                go_roundw
                case rel => exact ⟨1, by omega, by go_num, HB3⟩
                case measure => simp [intOf]
            · have HE : Hid (ErrX w3 E 1) := h2.x.below (unhide HAL)
              obtain ⟨t, x, rfl⟩ : ∃ t x, E = .iface t x := by obtain ⟨x, d, h, _⟩ := h2; exact ⟨_, x, h⟩
              clear h2 HC
              rcases hk1 with hk2 | hk2
              · have a1 : ((k : Int) / 16 != 12) = false := by simp [hk2]
                have hcell : ∀ W : World, Below w3.heap.size w3 W → W.cell? ⟨w2.heap.size, 0, none⟩ = some (.int .i64 q.kind) := fun W hb => (hb.cell (p := ⟨w2.heap.size, 0, none⟩) hlt3).trans c0
                clear c0 hcell
                generalize hbb : (bits .and .i64 (k : Int) 15 == 0) = bb
                have HNK : Hid (¬ (bb = true ∧ m = 0)) := fun h => h1 ⟨by
                  have e := hbb.trans h.1
                  rw [and15 k (by omega) (by omega)] at e
                  simpa using e, h.2⟩
                clear h1
                have HE3 := HE
                cases bb
                · go_wp2_with fail
                  refine (num4 _ 1 w3 (unhide HG3) (unhide HE3)).mono ?_
                  rintro e w4 ⟨rfl, hb4⟩
                  have HG4 : Hid (Laid w4) := (unhide HG3).below hb4 (unhide HG3).pos
                  have HE4 : Hid (ErrX w4 (.iface t x) 1) := (unhide HE3).below hb4
                  have HB4 : Hid (Below w.heap.size w w4) := (unhide HB3).trans (hb4.mono (unhide HB3).size)
                  clear hb4
                  go_wp2_with fail
                  refine (num4 _ 1 w4 (unhide HG4) (unhide HE4)).mono ?_
                  rintro e w5 ⟨rfl, hb5⟩
                  have HG5 : Hid (Laid w5) := (unhide HG4).below hb5 (unhide HG4).pos
                  have HE5 : Hid (ErrX w5 (.iface t x) 1) := (unhide HE4).below hb5
                  have HB5 : Hid (Below w.heap.size w w5) := (unhide HB4).trans (hb5.mono (unhide HB4).size)
                  clear hb5
                  go_wp2
                  go_roundw
                  case rel => exact ⟨m + 1, by omega, by go_num, HB5⟩
                  case measure => simp [intOf]; omega
                · have hm0 : (m : Int) ≠ 0 := fun e => (unhide HNK) ⟨rfl, by omega⟩
                  have hm1 : ((m : Int) == 0) = false := by simpa using hm0
                  go_wp2_with fail
                  refine (num4 _ 1 w3 (unhide HG3) (unhide HE3)).mono ?_
                  rintro e w4 ⟨rfl, hb4⟩
                  have HG4 : Hid (Laid w4) := (unhide HG3).below hb4 (unhide HG3).pos
                  have HE4 : Hid (ErrX w4 (.iface t x) 1) := (unhide HE3).below hb4
                  have HB4 : Hid (Below w.heap.size w w4) := (unhide HB3).trans (hb4.mono (unhide HB3).size)
                  clear hb4
                  go_wp2_with fail
                  refine (num4 _ 1 w4 (unhide HG4) (unhide HE4)).mono ?_
                  rintro e w5 ⟨rfl, hb5⟩
                  have HG5 : Hid (Laid w5) := (unhide HG4).below hb5 (unhide HG4).pos
                  have HE5 : Hid (ErrX w5 (.iface t x) 1) := (unhide HE4).below hb5
                  have HB5 : Hid (Below w.heap.size w w5) := (unhide HB4).trans (hb5.mono (unhide HB4).size)
                  clear hb5
                  go_wp2
                  go_roundw
                  case rel => exact ⟨m + 1, by omega, by go_num, HB5⟩
                  case measure => simp [intOf]; omega
              · have a1 : ((k : Int) / 16 != 12) = true := by simp [hk2]
                have a2 : ((k : Int) / 16 != 13) = false := by simp [hk2]
                have hcell : ∀ W : World, Below w3.heap.size w3 W → W.cell? ⟨w2.heap.size, 0, none⟩ = some (.int .i64 q.kind) := fun W hb => (hb.cell (p := ⟨w2.heap.size, 0, none⟩) hlt3).trans c0
                clear c0 hcell
                generalize hbb : (bits .and .i64 (k : Int) 15 == 0) = bb
                have HNK : Hid (¬ (bb = true ∧ m = 0)) := fun h => h1 ⟨by
                  have e := hbb.trans h.1
                  rw [and15 k (by omega) (by omega)] at e
                  simpa using e, h.2⟩
                clear h1
                have HE3 := HE
                cases bb
                · go_wp2_with fail
                  refine (num4 _ 1 w3 (unhide HG3) (unhide HE3)).mono ?_
                  rintro e w4 ⟨rfl, hb4⟩
                  have HG4 : Hid (Laid w4) := (unhide HG3).below hb4 (unhide HG3).pos
                  have HE4 : Hid (ErrX w4 (.iface t x) 1) := (unhide HE3).below hb4
                  have HB4 : Hid (Below w.heap.size w w4) := (unhide HB3).trans (hb4.mono (unhide HB3).size)
                  clear hb4
                  go_wp2_with fail
                  refine (num4 _ 1 w4 (unhide HG4) (unhide HE4)).mono ?_
                  rintro e w5 ⟨rfl, hb5⟩
                  have HG5 : Hid (Laid w5) := (unhide HG4).below hb5 (unhide HG4).pos
                  have HE5 : Hid (ErrX w5 (.iface t x) 1) := (unhide HE4).below hb5
                  have HB5 : Hid (Below w.heap.size w w5) := (unhide HB4).trans (hb5.mono (unhide HB4).size)
                  clear hb5
                  go_wp2
                  go_roundw
                  case rel => exact ⟨m + 1, by omega, by go_num, HB5⟩
                  case measure => simp [intOf]; omega
                · have hm0 : (m : Int) ≠ 0 := fun e => (unhide HNK) ⟨rfl, by omega⟩
                  have hm1 : ((m : Int) == 0) = false := by simpa using hm0
                  go_wp2_with fail
                  refine (num4 _ 1 w3 (unhide HG3) (unhide HE3)).mono ?_
                  rintro e w4 ⟨rfl, hb4⟩
                  have HG4 : Hid (Laid w4) := (unhide HG3).below hb4 (unhide HG3).pos
                  have HE4 : Hid (ErrX w4 (.iface t x) 1) := (unhide HE3).below hb4
                  have HB4 : Hid (Below w.heap.size w w4) := (unhide HB3).trans (hb4.mono (unhide HB3).size)
                  clear hb4
                  go_wp2_with fail
                  refine (num4 _ 1 w4 (unhide HG4) (unhide HE4)).mono ?_
                  rintro e w5 ⟨rfl, hb5⟩
                  have HG5 : Hid (Laid w5) := (unhide HG4).below hb5 (unhide HG4).pos
                  have HE5 : Hid (ErrX w5 (.iface t x) 1) := (unhide HE4).below hb5
                  have HB5 : Hid (Below w.heap.size w w5) := (unhide HB4).trans (hb5.mono (unhide HB4).size)
                  clear hb5
                  go_wp2
                  go_roundw
                  case rel => exact ⟨m + 1, by omega, by go_num, HB5⟩
                  case measure => simp [intOf]; omega
          · clear HC
            have a1 : ((k : Int) / 16 != 12) = true := by simpa using fun e => hk1 (.inl e)
            have a2 : ((k : Int) / 16 != 13) = true := by simpa using fun e => hk1 (.inr e)
            go_wp2
            go_roundw
            case rel => exact ⟨m + 1, by omega, by go_num, HB3⟩
            case measure => simp [intOf]; omega
end Go.Proofs.YtgdfnopnmdjklaaGreatDoor.K
