/- Proved here: helpers, one text behind the other. -/
import Derived.Test.YtoocdfgjkeheaaaGreatDoorM5
import Derived.Deep.WholeRow
import Derived.Test.YtoocdfgjkeheaaaGreatDoorM1
import Derived.Maps.AppendAt
import Derived.Test.YtoocdfgjkeheaaaGreatDoorM2
import Derived.Test.YtoocdfgjkeheaaaGreatDoorChecked
import Derived.Handy
import Derived.Test.YtoocdfgjkeheaaaGreatDoorM4
import Derived.Test.YtoocdfgjkeheaaaGreatDoorProg
import Derived.Laws.StructEq
import Derived.Deep.RegionHeld3
import Derived.Deep.MidRow
import Derived.Lib.AppendZerosOnto
import Derived.Test.YtoocdfgjkeheaaaGreatDoorZKAsks0
/- Proved here: packet.Decode tells the packet with whose bytes bytes begin, and how many, or an error's number. Helper contracts. -/
namespace Go.Proofs.YtoocdfgjkeheaaaGreatDoor.K
open Go.RowKit
set_option maxRecDepth 100000

abbrev pkz : Pkv := pk0 0 false 0 false
/-- the packet that bytes begin with, and how many they are; or an error's number -/
def dbody (l : List Int) : Option (Pa × List Int) := packet? (bpa (l.getD 0 0)) ((l.drop (meas l).1).take ((meas l).2.1 - (meas l).1))
def dnum (l : List Int) : Int := if l = [] then 3 else if bok (l.getD 0 0) = false then 1 else if (meas l).2.2 ≠ 0 then (meas l).2.2 else if (dbody l).isSome then 0 else 1
def DecPost (l : List Int) (w : World) (e : Ending) (w' : World) : Prop :=
  ∃ (q : Pkv) (n : Nat) (E : Value), e = .returned (.tuple #[q.val, .int .i64 n, E]) ∧
    ((dnum l ≠ 0 ∧ q = pkz ∧ n = 0 ∧ Hid (ErP w' E (dnum l))) ∨ (dnum l = 0 ∧ n = (meas l).2.1 ∧ E = .nilIface ∧ ∃ P r, dbody l = some (P, r) ∧ Hid (Mean w' w.heap.size q P))) ∧ Below w.heap.size w w'
theorem dec_bad (l : List Int) (w w' : World) (x : Value) (m : Int) (hm : dnum l = m) (h0 : m ≠ 0) (hE : Hid (ErP w' (.iface 149 x) m)) (hb : Below w.heap.size w w') : DecPost l w (.returned (.tuple #[pkz.val, .int .i64 (0 : Nat), .iface 149 x])) w' :=
  ⟨pkz, 0, _, rfl, .inl ⟨by rw [hm]; exact h0, rfl, rfl, by rw [hm]; exact hE⟩, hb⟩
theorem er_cells {w : World} {A : Nat} {vs : List Value} {c : Bool} (hA : w.cell? ⟨A, 1, none⟩ = some (.bool c)) : ∀ {d : Nat} {v : Value} {n : Int}, Er w d v n → Er (w.setCells A 0 vs) d v n
  | 0, _, _, h => h
  | d + 1, _, _, ⟨b, u, h1, h2, h3⟩ => ⟨b, u, h1, by
      rw [World.cell?_setCells_out A vs 0 w ⟨b, 1, none⟩ (fun e _ => by
        have e : b = A := e
        subst e
        obtain ⟨t, x, rfl⟩ := h3.iface
        rw [hA] at h2
        cases h2)]
      exact h2, er_cells hA h3⟩
theorem erp_cells {w : World} {A : Nat} {vs : List Value} {c : Bool} {E : Value} {n : Int} (h : ErP w E n) (hA : w.cell? ⟨A, 1, none⟩ = some (.bool c)) : ErP (w.setCells A 0 vs) E n := by
  obtain ⟨x, d, h1, h2, h3⟩ := h
  exact ⟨x, d, h1, h2, er_cells hA h3⟩
set_option maxHeartbeats 2000000 in
theorem dec_nil (ao : Option Addr) (cap : Nat) (w : World) : Calls Tryz.prog 33 #[.slice ao 0 cap] w (DecPost [] w) := by
  have HPN := hide (pk_new w pkz)
  have HBN : Hid (Below w.heap.size w (w.alloc (.cells pkz.cells.toArray 30))) := (Below.refl _ _).alloc (Nat.le_refl _) _
  have hdn : dnum [] = 3 := rfl
  obtain ⟨l, hl⟩ : ∃ l : List Int, l = [] := ⟨_, rfl⟩
  rw [← hl] at hdn ⊢
  have HDN := hide hdn
  clear hdn hl
  go_enter Tryz.func33, Tryz.ntmps33
  go_wp2_with fail
  refine (pf_use 3 _).mono ?_
  rintro e w1 ⟨x, rfl, hE, hb1⟩
  have HP1 := hide ((unhide HPN).below hb1)
  have HB1 : Hid (Below w.heap.size w w1) := (unhide HBN).trans (hb1.mono (unhide HBN).size)
  clear hb1 HPN HBN
  dsimp only
  go_step
  refine wpList_store_mid rfl 30 _ _ rfl w.heap.size 0 pkz.cells.toArray rfl rfl ((unhide HP1).there _) packet_size (Pkv.ones' _) ?_
  simp only [Act.put]
  have HPS := hide ((unhide HP1).stored pkz)
  have HBS : Hid (Below w.heap.size w (w1.setCells w.heap.size 0 pkz.cells)) := setCells_below (unhide HB1) (Nat.le_refl _)
  have HES : Hid (ErP (w1.setCells w.heap.size 0 pkz.cells) (.iface 149 x) 3) := erp_cells (unhide hE) (unhide HP1).dup
  generalize w1.setCells w.heap.size 0 pkz.cells = wS at HPS HBS HES ⊢
  go_wp2
  refine bodyPost_ret (res_pk3 (B := w.heap.size) (q := pkz) rfl rfl (unhide HPS)) rfl ?_
  exact dec_bad l w _ x 3 (unhide HDN) (by decide) HES (unhide HBS)

/-- a reader's cells -/
def rdc (q : Pkv) (ao : Option Addr) (m cap : Nat) : Array Value := #[.int .i64 q.kind, .bool q.dup, .int .i64 q.qos, .bool q.retain, .string q.topic, .int .i64 q.id, .string q.payload, q.props.val, .string q.client, .bool q.clean, .int .i64 q.keep, q.wills.val, q.user.val, q.pass.val, .int .i64 q.code, .bool q.session, q.subs.val, q.filters.val, q.codes.val, .slice ao m cap, .nilIface]
theorem reader_build (a : Act) (dst : Option Tmp) (x y : Operand) (ty : TypeId) (pos : String) (after : Array Edge) (q : Pkv) (ao : Option Addr) (m cap : Nat) (hx : a.eval x = q.val) (hy : a.eval y = .slice ao m cap) (w : World) :
    (execOp a.eval ⟨dst, .build 101 #[(0, x), (1, y)], ty, pos, after, none⟩).run Tryz.prog w = .ok (.value (.agg (rdc q ao m cap))) w := by
  unfold execOp
  simp only [List.map_toArray, List.map_cons, List.map_nil, hx, hy]
  kernel_rfl
theorem reader_alloc (ρ : Operand → Value) (dst : Option Tmp) (ty : TypeId) (pos : String) (after : Array Edge) (w : World) :
    (execOp ρ ⟨dst, .alloc 101, ty, pos, after, none⟩).run Tryz.prog w = .ok (.value (.pointer (some ⟨w.heap.size, 0, none⟩))) (w.alloc (.cells (rdc pkz none 0 0) 101)) := by
  kernel_rfl
theorem reader_size : (Tryz.prog.info? 101).map (·.size) = some 21 := by kernel_rfl
theorem rdc_one (q : Pkv) (ao : Option Addr) (m cap : Nat) : (rdc q ao m cap).all (·.oneCell') = true := by
  unfold rdc
  kernel_rfl
theorem reader_store (a : Act) (dst : Option Tmp) (x y : Operand) (ty : TypeId) (pos : String) (after : Array Edge) (q : Pkv) (ao : Option Addr) (m cap : Nat) (w : World) (hx : a.eval x = .pointer (some ⟨w.heap.size, 0, none⟩)) (hy : a.eval y = .agg (rdc q ao m cap)) :
    (execOp a.eval ⟨dst, .store 101 x y, ty, pos, after, none⟩).run Tryz.prog (w.alloc (.cells (rdc pkz none 0 0) 101)) = .ok .skip (w.alloc (.cells (rdc q ao m cap) 101)) := by
  show Sem.run Tryz.prog (do Instr.storeAt 101 (a.eval x) (a.eval y); pure Next.skip) _ = _
  rw [hx, hy]
  simp only [Sem.run_bind]
  rw [run_storeAt_new w 101 (rdc pkz none 0 0) (rdc q ao m cap) (by rw [reader_size]; rfl) rfl (rdc_one q ao m cap)]
  rfl
/-- an operation, at a step of a region that draws its order -/
theorem step_value {w w' : World} {ops : Array Oper} {o : Oper} {a : Act} {K : Act → World → Prop} {Q : Exit → Act → World → Prop} {E : Prop} {v : Value} (hgd : o.guard = none) (hr : (execOp a.eval o).run Tryz.prog w = .ok (.value v) w') (h : K (a.put o.dst v) w') :
    if Region.wanted o (yielded ops a.tmps) = true then Oper.wp Tryz.prog o a w K Q else E := by
  rw [if_pos (by simp [Region.wanted, hgd])]
  unfold Oper.wp
  rw [hr]
  exact h
theorem step_skip {w w' : World} {ops : Array Oper} {o : Oper} {a : Act} {K : Act → World → Prop} {Q : Exit → Act → World → Prop} {E : Prop} (hgd : o.guard = none) (hr : (execOp a.eval o).run Tryz.prog w = .ok .skip w') (h : K (a.put o.dst undef) w') :
    if Region.wanted o (yielded ops a.tmps) = true then Oper.wp Tryz.prog o a w K Q else E := by
  rw [if_pos (by simp [Region.wanted, hgd])]
  unfold Oper.wp
  rw [hr]
  exact h
theorem rdc_cell {w : World} {q : Pkv} {ao : Option Addr} {m cap : Nat} (j : Nat) (v : Value) (h : (rdc q ao m cap)[j]? = some v) : (w.alloc (.cells (rdc q ao m cap) 101)).cell? ⟨w.heap.size, j, none⟩ = some v := by
  have k := heap_alloc_new w (.cells (rdc q ao m cap) 101)
  unfold World.cell?
  dsimp only
  rw [k]
  simpa using h
theorem rdc_pk (w : World) (q : Pkv) (ao : Option Addr) (m cap : Nat) : Pk (w.alloc (.cells (rdc q ao m cap) 101)) w.heap.size q := fun j hj => by
  refine ⟨rdc_cell j _ ?_, by simp⟩
  rw [← cells_get q j hj]
  match j, hj with
  | 0, _ => rfl
  | 1, _ => rfl
  | 2, _ => rfl
  | 3, _ => rfl
  | 4, _ => rfl
  | 5, _ => rfl
  | 6, _ => rfl
  | 7, _ => rfl
  | 8, _ => rfl
  | 9, _ => rfl
  | 10, _ => rfl
  | 11, _ => rfl
  | 12, _ => rfl
  | 13, _ => rfl
  | 14, _ => rfl
  | 15, _ => rfl
  | 16, _ => rfl
  | 17, _ => rfl
  | 18, _ => rfl
  | n + 19, h => exact absurd h (by omega)
/-- a new reader -/
theorem rdc_rs (w0 w : World) (q : Pkv) (ao : Option Addr) (m cap : Nat) (l : List Int) (hb : Byt w0 (.slice ao m cap) l) (hw : Below w0.heap.size w0 w) : RS w0 (w.alloc (.cells (rdc q ao m cap) 101)) w.heap.size (some l) :=
  ⟨⟨rfl, fun k hk => by have hk : k = w.heap.size := hk; subst hk; simp⟩, ⟨q.dup, rdc_cell 1 _ rfl⟩, .slice ao m cap, l, .nilIface, ⟨rdc_cell 19 _ rfl, by simp, rdc_cell 20 _ rfl, by simp⟩, hb, hw.alloc hw.size _, hw.size, .inl ⟨rfl, rfl⟩⟩
theorem RSX.bad {w0 w : World} {R : Nat} {X : Nat → Prop} (h : RSX w0 w R X none) : ∃ t x d n, w.cell? ⟨R, 20, none⟩ = some (.iface t x) ∧ d ≤ 2 ∧ Er w d (.iface t x) n := by
  obtain ⟨_, _, bv, l', E, hr, hb, _, _, hst⟩ := h
  rcases hst with ⟨e, _⟩ | ⟨_, d, n, hd, he⟩
  · cases e
  · obtain ⟨t, x, rfl⟩ := he.iface
    exact ⟨t, x, d, n, hr.2.2.1, hd, he.er⟩
theorem Pk.far {w w' : World} {R A : Nat} {may : Nat → Prop} {q : Pkv} (h : Pk w A q) (hx : BX R may w w') (hA : A ≠ R) : Pk w' A q := fun j hj =>
  have hb := hx.block A (cell_lt (h 0 (by omega)).1) hA
  ⟨(World.cell?_of_block hb).trans (h j hj).1, (World.frozen?_of_block hb).trans (h j hj).2⟩
theorem bok_kind (b : Int) (h0 : 0 ≤ b) (h1 : b ≤ 255) (h : bok b = true) : 1 ≤ b / 16 ∧ b / 16 ≤ 15 := by
  refine ⟨?_, by omega⟩
  rcases Int.lt_or_le (b / 16) 1 with hk | hk
  · have : b / 16 = 0 := by omega
    unfold bok bmay at h
    simp [this] at h
  · exact hk
theorem packet_all (R : Nat) (b : Int) (h0 : 0 ≤ b) (h1 : b ≤ 255) (hb : bok b = true) (st : Option (List Int)) (w0 w : World) (h : RS w0 w R st) (hp : Pk w R (bpk b)) (hl : ∀ l, st = some l → l.length ≤ 65536) : Calls Tryz.prog 71 #[.pointer (some ⟨R, 0, none⟩)] w (PackPost w0 R (bpa b) st w) := by
  obtain ⟨k1, k2⟩ := bok_kind b h0 h1 hb
  unfold bpk at hp
  unfold bpa
  by_cases h3 : b / 16 = 3
  · rw [if_pos h3] at hp ⊢
    exact packet_k3 R _ _ _ st w0 w h hp hl
  · rw [if_neg h3] at hp ⊢
    generalize b / 16 = k at k1 k2 h3 hp
    have hk : k = 1 ∨ k = 2 ∨ k = 4 ∨ k = 5 ∨ k = 6 ∨ k = 7 ∨ k = 8 ∨ k = 9 ∨ k = 10 ∨ k = 11 ∨ k = 12 ∨ k = 13 ∨ k = 14 ∨ k = 15 := by omega
    rcases hk with rfl | rfl | rfl | rfl | rfl | rfl | rfl | rfl | rfl | rfl | rfl | rfl | rfl | rfl
    · exact packet_k1 R st w0 w h hp hl
    · exact packet_k2 R st w0 w h hp hl
    · exact packet_k4 R st w0 w h hp hl
    · exact packet_k5 R st w0 w h hp hl
    · exact packet_k6 R st w0 w h hp hl
    · exact packet_k7 R st w0 w h hp hl
    · exact packet_k8 R st w0 w h hp hl
    · exact packet_k9 R st w0 w h hp hl
    · exact packet_k10 R st w0 w h hp hl
    · exact packet_k11 R st w0 w h hp hl
    · exact packet_k12 R st w0 w h hp hl
    · exact packet_k13 R st w0 w h hp hl
    · exact packet_k14 R st w0 w h hp hl
    · exact packet_k15 R st w0 w h hp hl
theorem Mean.base {w : World} {B B' : Nat} {p : Pkv} {P : Pa} (h : Mean w B p P) (hB : B' ≤ B) : Mean w B' p P :=
  ⟨h.sc, owns_mono h.props hB, by
    obtain ⟨ws, h1, h2, h3⟩ := h.wills
    exact ⟨ws, owns_mono h1 hB, h2, fun i a b ha hb => by
      obtain ⟨k1, k2, k3, k4, k5⟩ := h3 i a b ha hb
      exact ⟨k1, k2, k3, k4, owns_mono k5 hB⟩⟩, owns_mono h.user hB, owns_mono h.pass hB, owns_mono h.subs hB, owns_mono h.filters hB, owns_mono h.codes hB⟩
theorem owns_cells {w : World} {A : Nat} {vs : List Value} {o B : Nat} {e : TypeId} {s : Nat} {v : Value} {n : Nat} {xs : List Value} (h : w.ownsRow B e s v n xs) (hA : A < B) : (w.setCells A o vs).ownsRow B e s v n xs := by
  induction vs generalizing w o with
  | nil => exact h
  | cons u vs ih =>
    rw [World.setCells]
    exact ih (owns_out h hA)
theorem Mean.cells {w : World} {A B : Nat} {vs : List Value} {p : Pkv} {P : Pa} (h : Mean w B p P) (hA : A < B) : Mean (w.setCells A 0 vs) B p P :=
  ⟨h.sc, owns_cells h.props hA, by
    obtain ⟨ws, h1, h2, h3⟩ := h.wills
    exact ⟨ws, owns_cells h1 hA, h2, fun i a b ha hb => by
      obtain ⟨k1, k2, k3, k4, k5⟩ := h3 i a b ha hb
      exact ⟨k1, k2, k3, k4, owns_cells k5 hA⟩⟩, owns_cells h.user hA, owns_cells h.pass hA, owns_cells h.subs hA, owns_cells h.filters hA, owns_cells h.codes hA⟩
end Go.Proofs.YtoocdfgjkeheaaaGreatDoor.K
/- Proved here: packet.Decode tells the packet with whose bytes bytes begin, and how many, or an error's number. Helper contracts. -/
namespace Go.Proofs.YtoocdfgjkeheaaaGreatDoor.K
open Go.RowKit
set_option maxRecDepth 100000

set_option maxHeartbeats 4000000 in
theorem dec_flag (bl off cap : Nat) (l : List Int) (w : World) (h : Byt w (.slice (some ⟨bl, off, none⟩) l.length cap) l) (hl : l ≠ []) (hok : bok (l.getD 0 0) = false) : Calls Tryz.prog 33 #[.slice (some ⟨bl, off, none⟩) l.length cap] w (DecPost l w) := by
  have HPN := hide (pk_new w pkz)
  have HBN : Hid (Below w.heap.size w (w.alloc (.cells pkz.cells.toArray 30))) := (Below.refl _ _).alloc (Nat.le_refl _) _
  have hl1 : 1 ≤ l.length := List.length_pos_iff.2 hl
  obtain ⟨hc1, hc2⟩ : l.length ≤ cap ∧ cap ≤ maxLen := by
    obtain ⟨ao', cap', e, k1, k2⟩ := h.form
    simp only [Value.slice.injEq] at e
    obtain ⟨_, _, rfl⟩ := e
    exact ⟨k1, k2⟩
  unfold maxLen at hc2
  have hr0 := h.range 0
  have hbl : w.cell? ⟨bl, off, none⟩ = some (.int .u8 (l.getD 0 0)) := by
    obtain ⟨ao', cap', e', _, _, hcase⟩ := h
    simp only [Value.slice.injEq] at e'
    obtain ⟨rfl, _, rfl⟩ := e'
    rcases hcase with h0 | ⟨b', off', e2, hc⟩
    · exact absurd h0 hl
    · simp only [Option.some.injEq, Addr.mk.injEq] at e2
      obtain ⟨rfl, rfl, _⟩ := e2
      exact hc 0 (by omega)
  have hcl := cell_lt hbl
  have HH := hide h
  have HL := hide hl
  generalize hn : l.length = n at hc1 hl1 HH
  have HN := hide hn
  obtain ⟨b, hb⟩ : ∃ b, l.getD 0 0 = b := ⟨_, rfl⟩
  rw [hb] at hr0 hbl hok
  have HB0 := hide hb
  clear h hl hn hb
  have HDN : Hid (dnum l = 1) := by
    show _ = _
    unfold dnum
    rw [if_neg (unhide HL), unhide HB0, if_pos hok]
  go_enter Tryz.func33, Tryz.ntmps33
  go_wp2_with fail
  refine (begin_any b hr0.1 hr0.2 _).mono ?_
  rintro e w1 ⟨rfl, hb1⟩
  have HP1 := hide ((unhide HPN).below hb1)
  have HB1 : Hid (Below w.heap.size w w1) := (unhide HBN).trans (hb1.mono (unhide HBN).size)
  clear hb1 HPN HBN hbl hcl
  dsimp only
  iterate 10 go_step
  refine wpList_store_mid rfl 30 _ _ rfl w.heap.size 0 (bpk b).cells.toArray rfl rfl ((unhide HP1).there _) packet_size (Pkv.ones' _) ?_
  simp only [Act.put]
  have HP2 := hide ((unhide HP1).stored (bpk b))
  have HB2 : Hid (Below w.heap.size w (w1.setCells w.heap.size 0 (bpk b).cells)) := setCells_below (unhide HB1) (Nat.le_refl _)
  generalize w1.setCells w.heap.size 0 (bpk b).cells = w2 at HP2 HB2 ⊢
  clear HP1 HB1
  rw [hok]
  go_wp2_with fail
  refine (pf_use 1 _).mono ?_
  rintro e w3 ⟨x, rfl, hE, hb3⟩
  have HP3 := hide ((unhide HP2).below hb3)
  have HB3 : Hid (Below w.heap.size w w3) := (unhide HB2).trans (hb3.mono (unhide HB2).size)
  clear hb3 HP2 HB2
  dsimp only
  go_step
  refine wpList_store_mid rfl 30 _ _ rfl w.heap.size 0 pkz.cells.toArray rfl rfl ((unhide HP3).there _) packet_size (Pkv.ones' _) ?_
  simp only [Act.put]
  have HPS := hide ((unhide HP3).stored pkz)
  have HBS : Hid (Below w.heap.size w (w3.setCells w.heap.size 0 pkz.cells)) := setCells_below (unhide HB3) (Nat.le_refl _)
  have HES : Hid (ErP (w3.setCells w.heap.size 0 pkz.cells) (.iface 149 x) 1) := erp_cells (unhide hE) (unhide HP3).dup
  generalize w3.setCells w.heap.size 0 pkz.cells = wS at HPS HBS HES ⊢
  go_wp2
  refine bodyPost_ret (res_pk3 (B := w.heap.size) (q := pkz) rfl rfl (unhide HPS)) rfl ?_
  exact dec_bad l w _ x 1 (unhide HDN) (by decide) HES (unhide HBS)
set_option maxHeartbeats 4000000 in
theorem dec_meas (bl off cap : Nat) (l : List Int) (w : World) (h : Byt w (.slice (some ⟨bl, off, none⟩) l.length cap) l) (hl : l ≠ []) (hok : bok (l.getD 0 0) = true) (hm : (meas l).2.2 ≠ 0) : Calls Tryz.prog 33 #[.slice (some ⟨bl, off, none⟩) l.length cap] w (DecPost l w) := by
  have HPN := hide (pk_new w pkz)
  have HBN : Hid (Below w.heap.size w (w.alloc (.cells pkz.cells.toArray 30))) := (Below.refl _ _).alloc (Nat.le_refl _) _
  have hl1 : 1 ≤ l.length := List.length_pos_iff.2 hl
  obtain ⟨hc1, hc2⟩ : l.length ≤ cap ∧ cap ≤ maxLen := by
    obtain ⟨ao', cap', e, k1, k2⟩ := h.form
    simp only [Value.slice.injEq] at e
    obtain ⟨_, _, rfl⟩ := e
    exact ⟨k1, k2⟩
  unfold maxLen at hc2
  have hr0 := h.range 0
  have hbl : w.cell? ⟨bl, off, none⟩ = some (.int .u8 (l.getD 0 0)) := by
    obtain ⟨ao', cap', e', _, _, hcase⟩ := h
    simp only [Value.slice.injEq] at e'
    obtain ⟨rfl, _, rfl⟩ := e'
    rcases hcase with h0 | ⟨b', off', e2, hc⟩
    · exact absurd h0 hl
    · simp only [Option.some.injEq, Addr.mk.injEq] at e2
      obtain ⟨rfl, rfl, _⟩ := e2
      exact hc 0 (by omega)
  have hcl := cell_lt hbl
  have HH := hide h
  have HL := hide hl
  generalize hn : l.length = n at hc1 hl1 HH
  have HN := hide hn
  obtain ⟨b, hb⟩ : ∃ b, l.getD 0 0 = b := ⟨_, rfl⟩
  rw [hb] at hr0 hbl hok
  have HB0 := hide hb
  clear h hl hn hb
  have HDN : Hid (dnum l = (meas l).2.2) := by
    show _ = _
    unfold dnum
    rw [if_neg (unhide HL), unhide HB0, if_neg (by rw [hok]; decide), if_pos hm]
  generalize hmm : (meas l).2.2 = m at hm HDN
  have HMM := hide hmm
  clear hmm
  go_enter Tryz.func33, Tryz.ntmps33
  go_wp2_with fail
  refine (begin_any b hr0.1 hr0.2 _).mono ?_
  rintro e w1 ⟨rfl, hb1⟩
  have HP1 := hide ((unhide HPN).below hb1)
  have HB1 : Hid (Below w.heap.size w w1) := (unhide HBN).trans (hb1.mono (unhide HBN).size)
  clear hb1 HPN HBN hbl hcl
  dsimp only
  iterate 10 go_step
  refine wpList_store_mid rfl 30 _ _ rfl w.heap.size 0 (bpk b).cells.toArray rfl rfl ((unhide HP1).there _) packet_size (Pkv.ones' _) ?_
  simp only [Act.put]
  have HP2 := hide ((unhide HP1).stored (bpk b))
  have HB2 : Hid (Below w.heap.size w (w1.setCells w.heap.size 0 (bpk b).cells)) := setCells_below (unhide HB1) (Nat.le_refl _)
  generalize w1.setCells w.heap.size 0 (bpk b).cells = w2 at HP2 HB2 ⊢
  clear HP1 HB1
  rw [hok]
  have HMS := hide (measure_any (.slice (some ⟨bl, off, none⟩) n cap) l w2 ((unhide HH).below (unhide HB2)) (unhide HL))
  go_wp2_with fail
  refine (unhide HMS).mono ?_
  rintro e w3 ⟨E, rfl, hE, hb3⟩
  have HP3 := hide ((unhide HP2).below hb3)
  have HB3 : Hid (Below w.heap.size w w3) := (unhide HB2).trans (hb3.mono (unhide HB2).size)
  clear hb3 HP2 HB2 HMS
  rw [unhide HMM] at hE
  rcases unhide hE with ⟨h0, _⟩ | ⟨_, x, d, hx, hd, he⟩
  · exact absurd h0 hm
  · subst hx
    have HE : Hid (ErP w3 (.iface 149 x) m) := ⟨x, d, rfl, hd, he⟩
    clear he hE
    go_upto_region 8 with fail
    iterate 7 go_step
    refine wpList_store_mid rfl 30 _ _ rfl w.heap.size 0 pkz.cells.toArray rfl rfl ((unhide HP3).there _) packet_size (Pkv.ones' _) ?_
    simp only [Act.put]
    have HPS := hide ((unhide HP3).stored pkz)
    have HBS : Hid (Below w.heap.size w (w3.setCells w.heap.size 0 pkz.cells)) := setCells_below (unhide HB3) (Nat.le_refl _)
    have HES : Hid (ErP (w3.setCells w.heap.size 0 pkz.cells) (.iface 149 x) m) := erp_cells (unhide HE) (unhide HP3).dup
    generalize w3.setCells w.heap.size 0 pkz.cells = wS at HPS HBS HES ⊢
    go_wp2
    refine bodyPost_ret (res_pk3 (B := w.heap.size) (q := pkz) rfl rfl (unhide HPS)) rfl ?_
    exact dec_bad l w _ x m (unhide HDN) hm HES (unhide HBS)
theorem meas_le (l : List Int) (h : (meas l).2.2 = 0) : 1 ≤ (meas l).1 ∧ (meas l).1 ≤ (meas l).2.1 ∧ (meas l).2.1 ≤ l.length ∧ (meas l).2.1 ≤ 65536 := by
  unfold meas at h ⊢
  split at h
  · contradiction
  · split at h
    · simp at h
    · split at h
      · simp at h
      · rename_i h1 h2 h3
        rw [if_neg h1, if_neg h2, if_neg h3]
        simp only
        omega
theorem stp_none {α : Type} {f : List Int → Option (α × List Int)} {l : List Int} {x : α} (h : Stp f (some l) x none) : f l = none := by
  unfold Stp at h
  simp only at h
  cases hq : f l with
  | none => rfl
  | some r => rw [hq] at h; cases h.2
theorem stp_some {α : Type} {f : List Int → Option (α × List Int)} {l l' : List Int} {x : α} (h : Stp f (some l) x (some l')) : f l = some (x, l') := by
  unfold Stp at h
  simp only at h
  cases hq : f l with
  | none => rw [hq] at h; cases h
  | some r =>
    rw [hq] at h
    obtain ⟨rfl, e⟩ := h
    cases e
    rfl
theorem Pk.lt {w : World} {A : Nat} {q : Pkv} (h : Pk w A q) : A < w.heap.size := cell_lt (h 0 (by omega)).1
set_option maxHeartbeats 4000000 in
theorem dec_body (bl off cap : Nat) (l : List Int) (w : World) (h : Byt w (.slice (some ⟨bl, off, none⟩) l.length cap) l) (hl : l ≠ []) (hok : bok (l.getD 0 0) = true) (hm : (meas l).2.2 = 0) : Calls Tryz.prog 33 #[.slice (some ⟨bl, off, none⟩) l.length cap] w (DecPost l w) := by
  have HPN := hide (pk_new w pkz)
  have HBN : Hid (Below w.heap.size w (w.alloc (.cells pkz.cells.toArray 30))) := (Below.refl _ _).alloc (Nat.le_refl _) _
  have hl1 : 1 ≤ l.length := List.length_pos_iff.2 hl
  obtain ⟨hc1, hc2⟩ : l.length ≤ cap ∧ cap ≤ maxLen := by
    obtain ⟨ao', cap', e, k1, k2⟩ := h.form
    simp only [Value.slice.injEq] at e
    obtain ⟨_, _, rfl⟩ := e
    exact ⟨k1, k2⟩
  unfold maxLen at hc2
  have hr0 := h.range 0
  have hbl : w.cell? ⟨bl, off, none⟩ = some (.int .u8 (l.getD 0 0)) := by
    obtain ⟨ao', cap', e', _, _, hcase⟩ := h
    simp only [Value.slice.injEq] at e'
    obtain ⟨rfl, _, rfl⟩ := e'
    rcases hcase with h0 | ⟨b', off', e2, hc⟩
    · exact absurd h0 hl
    · simp only [Option.some.injEq, Addr.mk.injEq] at e2
      obtain ⟨rfl, rfl, _⟩ := e2
      exact hc 0 (by omega)
  have hcl := cell_lt hbl
  have HH := hide h
  have HL := hide hl
  generalize hn : l.length = n at hc1 hl1 HH
  have HN := hide hn
  obtain ⟨b, hb⟩ : ∃ b, l.getD 0 0 = b := ⟨_, rfl⟩
  rw [hb] at hr0 hbl hok
  have HB0 := hide hb
  clear h hl hn hb
  obtain ⟨hd, hhd⟩ : ∃ hd, hd = (meas l).1 := ⟨_, rfl⟩
  obtain ⟨sz, hsz⟩ : ∃ sz, sz = (meas l).2.1 := ⟨_, rfl⟩
  have hms := meas_le l hm
  rw [← hhd, ← hsz] at hms
  obtain ⟨hh1, hh2, hh3, hh4⟩ := hms
  have HDB : Hid (dbody l = packet? (bpa b) ((l.drop hd).take (sz - hd))) := by
    show dbody l = _
    unfold dbody
    rw [← hhd, ← hsz, unhide HB0]
  have HD1 : Hid (packet? (bpa b) ((l.drop hd).take (sz - hd)) = none → dnum l = 1) := fun e => by
    unfold dnum
    rw [if_neg (unhide HL), unhide HB0, if_neg (by rw [hok]; decide), if_neg (by rw [hm]; decide), unhide HDB, e]
    rfl
  have HD0 : Hid (∀ {P' : Pa} {l' : List Int}, packet? (bpa b) ((l.drop hd).take (sz - hd)) = some (P', l') → dnum l = 0) := fun e => by
    unfold dnum
    rw [if_neg (unhide HL), unhide HB0, if_neg (by rw [hok]; decide), if_neg (by rw [hm]; decide), unhide HDB, e]
    rfl
  have HSZ : Hid (sz = (meas l).2.1) := hsz
  rw [unhide HN] at hh3
  go_enter Tryz.func33, Tryz.ntmps33
  go_wp2_with fail
  refine (begin_any b hr0.1 hr0.2 _).mono ?_
  rintro e w1 ⟨rfl, hb1⟩
  have HP1 := hide ((unhide HPN).below hb1)
  have HB1 : Hid (Below w.heap.size w w1) := (unhide HBN).trans (hb1.mono (unhide HBN).size)
  clear hb1 HPN HBN hbl hcl
  dsimp only
  iterate 10 go_step
  refine wpList_store_mid rfl 30 _ _ rfl w.heap.size 0 (bpk b).cells.toArray rfl rfl ((unhide HP1).there _) packet_size (Pkv.ones' _) ?_
  simp only [Act.put]
  have HP2 := hide ((unhide HP1).stored (bpk b))
  have HB2 : Hid (Below w.heap.size w (w1.setCells w.heap.size 0 (bpk b).cells)) := setCells_below (unhide HB1) (Nat.le_refl _)
  generalize w1.setCells w.heap.size 0 (bpk b).cells = w2 at HP2 HB2 ⊢
  clear HP1 HB1
  rw [hok]
  have HMS := hide (measure_any (.slice (some ⟨bl, off, none⟩) n cap) l w2 ((unhide HH).below (unhide HB2)) (unhide HL))
  go_wp2_with fail
  refine (unhide HMS).mono ?_
  rintro e w3 ⟨E, rfl, hE, hb3⟩
  have HP3 := hide ((unhide HP2).below hb3)
  have HB3 : Hid (Below w.heap.size w w3) := (unhide HB2).trans (hb3.mono (unhide HB2).size)
  clear hb3 HP2 HB2 HMS
  obtain ⟨q, hq⟩ : ∃ q, q = bpk b := ⟨_, rfl⟩
  have HPK : Hid (∀ w4 : World, RS w3 w4 w3.heap.size (some ((l.drop hd).take (sz - hd))) → Pk w4 w3.heap.size q → Calls Tryz.prog 71 #[.pointer (some ⟨w3.heap.size, 0, none⟩)] w4 (PackPost w3 w3.heap.size (bpa b) (some ((l.drop hd).take (sz - hd))) w4)) := fun w4 k1 k2 => by
    rw [hq] at k2
    exact packet_all _ _ hr0.1 hr0.2 hok _ _ _ k1 k2 (fun l2 e => by
      cases e
      rw [List.length_take]
      omega)
  rw [← hq] at HP3
  rw [← hhd, ← hsz]
  clear hq hhd hsz
  have HMID := hide (((unhide HH).below (unhide HB3)).mid hd (sz - hd) (by omega))
  by_cases hcap : cap = hd
  · have e1 : hd = cap := hcap.symm
    clear hcap
    subst e1
    have e2 : hd = n := by omega
    have e3 : sz = hd := by omega
    subst e3
    have HBY : Hid (Byt w3 (.slice (some ⟨bl, off, none⟩) 0 0) ((l.drop sz).take (sz - sz))) := by
      show Byt _ _ _
      have k := unhide HMID
      rw [if_pos rfl, Nat.sub_self] at k
      rw [Nat.sub_self]
      exact k
    clear HMID
    subst e2
    obtain ⟨hE0, rfl⟩ : (meas l).2.2 = 0 ∧ E = .nilIface := by
      rcases unhide hE with h | ⟨h, _⟩
      · exact h
      · exact absurd hm h
    clear hE hE0
    have hbd3 := bel_drew w3
    have HPd := hide ((unhide HP3).below hbd3)
    have HBd : Hid (Below w.heap.size w w3.drew) := (unhide HB3).trans (hbd3.mono (unhide HB3).size)
    clear hbd3
    go_wp2_with fail
    refine wp_region_noPanic ?_
    refine wp_region_held_drew (S := (fun w' => w'.rangeAt w.heap.size 0 q.cells)) (by kernel_rfl) (unhide HPd).range (fun hHeld => ?_)
    refine wpAnyH_take (i := 0) (oi := { dst := some 35, op := Op.load 30 (Operand.tmp 2), type := 30, pos := "packet.go:81", after := #[], guard := none }) (v := q.val) rfl (by kernel_rfl) (by kernel_rfl) (by kernel_rfl) (fun _ _ _ h => h) (yieldsIf_load_mid (by rfl) 30 _ rfl w.heap.size 0 rfl q.cells _ (fun _ h => h) Tryz.underlying30 rfl packet_size) (by assumption) ?_
    simp only [Act.put, List.setIfInBounds_toArray, List.set_cons_zero, List.set_cons_succ]
    refine wpAnyH_take (i := 1) (oi := { dst := some 36, op := Op.move (Operand.tmp 0), type := 31, pos := "packet.go:81", after := #[], guard := none }) (v := ?v1) rfl (by kernel_rfl) (by kernel_rfl) (by kernel_rfl) (fun _ _ _ h => h) (Or.inl ⟨by rfl, ?hy1⟩) (by assumption) ?rest1
    case hy1 => (intro w hSw; (try dsimp only at hSw); go_simp; (try rw [if_pos (by omega)]); (try with_reducible rfl))
    simp only [Act.put, List.setIfInBounds_toArray, List.set_cons_zero, List.set_cons_succ]
    refine wpAnyH_take (i := 2) (oi := { dst := some 37, op := Op.move (Operand.tmp 6), type := 3, pos := "packet.go:81", after := #[], guard := none }) (v := ?v2) rfl (by kernel_rfl) (by kernel_rfl) (by kernel_rfl) (fun _ _ _ h => h) (Or.inl ⟨by rfl, ?hy2⟩) (by assumption) ?rest2
    case hy2 => (intro w hSw; (try dsimp only at hSw); go_simp; (try rw [if_pos (by omega)]); (try with_reducible rfl))
    simp only [Act.put, List.setIfInBounds_toArray, List.set_cons_zero, List.set_cons_succ]
    refine wpAnyH_take (i := 3) (oi := { dst := some 38, op := Op.move (Operand.tmp 3), type := 3, pos := "packet.go:81", after := #[], guard := none }) (v := ?v3) rfl (by kernel_rfl) (by kernel_rfl) (by kernel_rfl) (fun _ _ _ h => h) (Or.inl ⟨by rfl, ?hy3⟩) (by assumption) ?rest3
    case hy3 => (intro w hSw; (try dsimp only at hSw); go_simp; (try rw [if_pos (by omega)]); (try with_reducible rfl))
    simp only [Act.put, List.setIfInBounds_toArray, List.set_cons_zero, List.set_cons_succ]
    refine wpAnyH_take (i := 4) (oi := { dst := some 39, op := Op.slice 31 (Operand.tmp 36) (some (Operand.tmp 37)) (some (Operand.tmp 38)) none, type := 31, pos := "packet.go:81", after := #[{ on := 1, ground := Ground.data }, { on := 2, ground := Ground.data }, { on := 3, ground := Ground.data }], guard := none }) (v := ?v4) rfl (by kernel_rfl) (by kernel_rfl) (by kernel_rfl) (fun _ _ _ h => h) (Or.inl ⟨by rfl, ?hy4⟩) (by assumption) ?rest4
    case hy4 => (intro w hSw; (try dsimp only at hSw); go_simp; (try rw [if_pos (by omega)]); (try with_reducible rfl))
    simp only [Act.put, List.setIfInBounds_toArray, List.set_cons_zero, List.set_cons_succ]
    refine wpAnyH_take (i := 5) (oi := { dst := some 40, op := Op.build 101 #[(0, Operand.tmp 35), (1, Operand.tmp 39)], type := 101, pos := "packet.go:81", after := #[{ on := 0, ground := Ground.data }, { on := 4, ground := Ground.data }], guard := none }) (v := .agg (rdc q (some ⟨bl, off, none⟩) 0 0)) rfl (by kernel_rfl) (by kernel_rfl) (by kernel_rfl) (fun _ _ _ h => h) (Or.inl ⟨by rfl, fun w _ => reader_build _ _ _ _ _ _ _ q (some ⟨bl, off, none⟩) 0 0 rfl rfl w⟩) (by assumption) ?_
    simp only [Act.put, List.setIfInBounds_toArray, List.set_cons_zero, List.set_cons_succ]
    refine wpAnyH_ready (rs := [6]) (by kernel_rfl) (by simp) ?_
    refine AllReadyH.cons (o := { dst := some 7, op := Op.alloc 101, type := 0, pos := "packet.go:81", after := #[], guard := none }) rfl (fun K hK => ?_) AllReadyH.nil
    refine step_value rfl (reader_alloc _ _ _ _ _ _) ?_
    refine hK.out _ _ ((unhide HPd).below ((Below.refl _ _).alloc (Nat.le_refl _) _)).range (fun hHeld => ?_)
    clear hK K
    simp only [Act.put, List.setIfInBounds_toArray, List.set_cons_zero, List.set_cons_succ]
    refine wpAnyH_ready (rs := [7]) (by kernel_rfl) (by simp) ?_
    refine AllReadyH.cons (o := { dst := none, op := Op.store 101 (Operand.tmp 7) (Operand.tmp 40), type := 0, pos := "packet.go:81", after := #[{ on := 6, ground := Ground.data }, { on := 5, ground := Ground.data }, { on := 0, ground := Ground.phase }, { on := 1, ground := Ground.phase }, { on := 2, ground := Ground.phase }, { on := 3, ground := Ground.phase }, { on := 4, ground := Ground.phase }, { on := 5, ground := Ground.phase }, { on := 6, ground := Ground.phase }], guard := none }) rfl (fun K hK => ?_) AllReadyH.nil
    refine step_skip rfl (reader_store _ _ _ _ _ _ _ q (some ⟨bl, off, none⟩) 0 0 w3.drew rfl rfl) ?_
    refine hK.out _ _ ((unhide HPd).below ((Below.refl _ _).alloc (Nat.le_refl _) _)).range (fun hHeld => ?_)
    clear hK K
    simp only [Act.put]
    refine wpAnyH_done (by kernel_rfl) ?_ _
    refine NoPanic.normal ?_
    have hR : w3.drew.heap.size = w3.heap.size := rfl
    have HPR := hide (rdc_pk w3.drew q (some ⟨bl, off, none⟩) 0 0)
    have HRS := hide (rdc_rs w3 w3.drew q (some ⟨bl, off, none⟩) 0 0 ((l.drop sz).take (sz - sz)) (unhide HBY) (bel_drew w3))
    have HPA : Hid (Pk (w3.drew.alloc (.cells (rdc q (some ⟨bl, off, none⟩) 0 0) 101)) w.heap.size q) := (unhide HPd).below ((Below.refl _ _).alloc (Nat.le_refl _) _)
    have HBA : Hid (Below w.heap.size w (w3.drew.alloc (.cells (rdc q (some ⟨bl, off, none⟩) 0 0) 101))) := (unhide HBd).trans (((Below.refl _ _).alloc (Nat.le_refl _) _).mono (unhide HBd).size)
    have hAR : w.heap.size < w3.heap.size := (unhide HP3).lt
    have hWs : w3.heap.size < (w3.drew.alloc (.cells (rdc q (some ⟨bl, off, none⟩) 0 0) 101)).heap.size := by simp
    rw [hR] at HPR HRS
    generalize w3.drew.alloc (.cells (rdc q (some ⟨bl, off, none⟩) 0 0) 101) = w4 at HPR HRS HPA HBA hWs ⊢
    clear HPd HBd hHeld hR HP3
    go_wp2_with fail
    refine ((unhide HPK) _ (unhide HRS) (unhide HPR)).mono ?_
    rintro e w5 ⟨rfl, p', P', st', hp5, hM5, hs5, h5, hx5⟩
    have HP5 := hide hp5
    have HS5 := hide h5
    have HST5 := hide hs5
    have HA5 := hide ((unhide HPA).far hx5 (Nat.ne_of_lt hAR))
    have HB5 : Hid (Below w.heap.size w w5) := (unhide HBA).trans (hx5.below (Nat.le_of_lt hAR) (unhide HBA).size)
    have hR5 : w3.heap.size < w5.heap.size := Nat.lt_of_lt_of_le hWs hx5.size
    have HM5 : Hid (Mean w5 w3.heap.size.succ p' P') := (unhide hM5).base hWs
    clear hp5 h5 hs5 hx5 hM5 HPA HBA HPR HRS HPK
    cases st' with
    | none =>
      obtain ⟨t, x, d, k, c20, hd2, he⟩ := (unhide HS5).bad
      have HE5 := hide he
      clear he
      have HDN : Hid (dnum l = 1) := (unhide HD1) (stp_none (unhide HST5))
      go_wp2_with fail
      refine (pbroken d hd2 _ k _ (unhide HE5)).mono ?_
      rintro e w6 ⟨y, rfl, hE, hb6⟩
      have HP6 := hide ((unhide HA5).below hb6)
      have HB6 : Hid (Below w.heap.size w w6) := (unhide HB5).trans (hb6.mono (unhide HB5).size)
      clear hb6
      dsimp only
      go_step
      refine wpList_store_mid rfl 30 _ _ rfl w.heap.size 0 pkz.cells.toArray rfl rfl ((unhide HP6).there _) packet_size (Pkv.ones' _) ?_
      simp only [Act.put]
      have HPS := hide ((unhide HP6).stored pkz)
      have HBS : Hid (Below w.heap.size w (w6.setCells w.heap.size 0 pkz.cells)) := setCells_below (unhide HB6) (Nat.le_refl _)
      have HES : Hid (ErP (w6.setCells w.heap.size 0 pkz.cells) (.iface 149 y) 1) := erp_cells (unhide hE) (unhide HP6).dup
      generalize w6.setCells w.heap.size 0 pkz.cells = wS at HPS HBS HES ⊢
      go_wp2
      refine bodyPost_ret (res_pk3 (B := w.heap.size) (q := pkz) rfl rfl (unhide HPS)) rfl ?_
      exact dec_bad l w _ y 1 (unhide HDN) (by decide) HES (unhide HBS)
    | some l' =>
      have hds := stp_some (unhide HST5)
      have HDN : Hid (dnum l = 0) := (unhide HD0) hds
      have HDS := hide hds
      clear hds
      obtain ⟨_, _, c20⟩ | ⟨hno, _⟩ := (unhide HS5).err
      · go_upto_region 13 with fail
        iterate 4 go_step
        refine wpList_load_mid rfl 30 _ rfl w3.heap.size 0 rfl p'.cells _ (unhide HP5).range Tryz.underlying30 rfl packet_size ?_
        simp only [Act.put, List.setIfInBounds_toArray, List.set_cons_zero, List.set_cons_succ]
        iterate 3 go_step
        refine wpList_store_mid rfl 30 _ _ rfl w.heap.size 0 p'.cells.toArray rfl rfl ((unhide HA5).there _) packet_size (Pkv.ones' _) ?_
        simp only [Act.put]
        have HPS := hide ((unhide HA5).stored p')
        have HBS : Hid (Below w.heap.size w (w5.setCells w.heap.size 0 p'.cells)) := setCells_below (unhide HB5) (Nat.le_refl _)
        have HMS : Hid (Mean (w5.setCells w.heap.size 0 p'.cells) w.heap.size p' P') := ((unhide HM5).cells (Nat.lt_succ_of_lt hAR)).base (Nat.le_succ_of_le (Nat.le_of_lt hAR))
        generalize w5.setCells w.heap.size 0 p'.cells = w6 at HPS HBS HMS ⊢
        clear c20
        go_wp2
        refine bodyPost_ret (res_pk3 (B := w.heap.size) (q := p') rfl rfl (unhide HPS)) rfl ?_
        exact ⟨p', sz, .nilIface, rfl, .inr ⟨unhide HDN, (unhide HSZ), rfl, P', l', (unhide HDB).trans (unhide HDS), HMS⟩, unhide HBS⟩
      · cases hno
  · have HBY : Hid (Byt w3 (.slice (some ⟨bl, off + hd, none⟩) (sz - hd) (cap - hd)) ((l.drop hd).take (sz - hd))) := by
      show Byt _ _ _
      have k := unhide HMID
      rw [if_neg hcap] at k
      exact k
    clear HMID
    obtain ⟨hE0, rfl⟩ : (meas l).2.2 = 0 ∧ E = .nilIface := by
      rcases unhide hE with h | ⟨h, _⟩
      · exact h
      · exact absurd hm h
    clear hE hE0
    have hbd3 := bel_drew w3
    have HPd := hide ((unhide HP3).below hbd3)
    have HBd : Hid (Below w.heap.size w w3.drew) := (unhide HB3).trans (hbd3.mono (unhide HB3).size)
    clear hbd3
    go_wp2_with fail
    refine wp_region_noPanic ?_
    refine wp_region_held_drew (S := (fun w' => w'.rangeAt w.heap.size 0 q.cells)) (by kernel_rfl) (unhide HPd).range (fun hHeld => ?_)
    refine wpAnyH_take (i := 0) (oi := { dst := some 35, op := Op.load 30 (Operand.tmp 2), type := 30, pos := "packet.go:81", after := #[], guard := none }) (v := q.val) rfl (by kernel_rfl) (by kernel_rfl) (by kernel_rfl) (fun _ _ _ h => h) (yieldsIf_load_mid (by rfl) 30 _ rfl w.heap.size 0 rfl q.cells _ (fun _ h => h) Tryz.underlying30 rfl packet_size) (by assumption) ?_
    simp only [Act.put, List.setIfInBounds_toArray, List.set_cons_zero, List.set_cons_succ]
    refine wpAnyH_take (i := 1) (oi := { dst := some 36, op := Op.move (Operand.tmp 0), type := 31, pos := "packet.go:81", after := #[], guard := none }) (v := ?v5) rfl (by kernel_rfl) (by kernel_rfl) (by kernel_rfl) (fun _ _ _ h => h) (Or.inl ⟨by rfl, ?hy5⟩) (by assumption) ?rest5
    case hy5 => (intro w hSw; (try dsimp only at hSw); go_simp; (try rw [if_pos (by omega)]); (try with_reducible rfl))
    simp only [Act.put, List.setIfInBounds_toArray, List.set_cons_zero, List.set_cons_succ]
    refine wpAnyH_take (i := 2) (oi := { dst := some 37, op := Op.move (Operand.tmp 6), type := 3, pos := "packet.go:81", after := #[], guard := none }) (v := ?v6) rfl (by kernel_rfl) (by kernel_rfl) (by kernel_rfl) (fun _ _ _ h => h) (Or.inl ⟨by rfl, ?hy6⟩) (by assumption) ?rest6
    case hy6 => (intro w hSw; (try dsimp only at hSw); go_simp; (try rw [if_pos (by omega)]); (try with_reducible rfl))
    simp only [Act.put, List.setIfInBounds_toArray, List.set_cons_zero, List.set_cons_succ]
    refine wpAnyH_take (i := 3) (oi := { dst := some 38, op := Op.move (Operand.tmp 3), type := 3, pos := "packet.go:81", after := #[], guard := none }) (v := ?v7) rfl (by kernel_rfl) (by kernel_rfl) (by kernel_rfl) (fun _ _ _ h => h) (Or.inl ⟨by rfl, ?hy7⟩) (by assumption) ?rest7
    case hy7 => (intro w hSw; (try dsimp only at hSw); go_simp; (try rw [if_pos (by omega)]); (try with_reducible rfl))
    simp only [Act.put, List.setIfInBounds_toArray, List.set_cons_zero, List.set_cons_succ]
    refine wpAnyH_take (i := 4) (oi := { dst := some 39, op := Op.slice 31 (Operand.tmp 36) (some (Operand.tmp 37)) (some (Operand.tmp 38)) none, type := 31, pos := "packet.go:81", after := #[{ on := 1, ground := Ground.data }, { on := 2, ground := Ground.data }, { on := 3, ground := Ground.data }], guard := none }) (v := ?v8) rfl (by kernel_rfl) (by kernel_rfl) (by kernel_rfl) (fun _ _ _ h => h) (Or.inl ⟨by rfl, ?hy8⟩) (by assumption) ?rest8
    case hy8 => (intro w hSw; (try dsimp only at hSw); go_simp; (try rw [if_pos (by omega)]); (try with_reducible rfl))
    simp only [Act.put, List.setIfInBounds_toArray, List.set_cons_zero, List.set_cons_succ]
    refine wpAnyH_take (i := 5) (oi := { dst := some 40, op := Op.build 101 #[(0, Operand.tmp 35), (1, Operand.tmp 39)], type := 101, pos := "packet.go:81", after := #[{ on := 0, ground := Ground.data }, { on := 4, ground := Ground.data }], guard := none }) (v := .agg (rdc q (some ⟨bl, off + hd, none⟩) (sz - hd) (cap - hd))) rfl (by kernel_rfl) (by kernel_rfl) (by kernel_rfl) (fun _ _ _ h => h) (Or.inl ⟨by rfl, fun w _ => reader_build _ _ _ _ _ _ _ q (some ⟨bl, off + hd, none⟩) (sz - hd) (cap - hd) rfl rfl w⟩) (by assumption) ?_
    simp only [Act.put, List.setIfInBounds_toArray, List.set_cons_zero, List.set_cons_succ]
    refine wpAnyH_ready (rs := [6]) (by kernel_rfl) (by simp) ?_
    refine AllReadyH.cons (o := { dst := some 7, op := Op.alloc 101, type := 0, pos := "packet.go:81", after := #[], guard := none }) rfl (fun K hK => ?_) AllReadyH.nil
    refine step_value rfl (reader_alloc _ _ _ _ _ _) ?_
    refine hK.out _ _ ((unhide HPd).below ((Below.refl _ _).alloc (Nat.le_refl _) _)).range (fun hHeld => ?_)
    clear hK K
    simp only [Act.put, List.setIfInBounds_toArray, List.set_cons_zero, List.set_cons_succ]
    refine wpAnyH_ready (rs := [7]) (by kernel_rfl) (by simp) ?_
    refine AllReadyH.cons (o := { dst := none, op := Op.store 101 (Operand.tmp 7) (Operand.tmp 40), type := 0, pos := "packet.go:81", after := #[{ on := 6, ground := Ground.data }, { on := 5, ground := Ground.data }, { on := 0, ground := Ground.phase }, { on := 1, ground := Ground.phase }, { on := 2, ground := Ground.phase }, { on := 3, ground := Ground.phase }, { on := 4, ground := Ground.phase }, { on := 5, ground := Ground.phase }, { on := 6, ground := Ground.phase }], guard := none }) rfl (fun K hK => ?_) AllReadyH.nil
    refine step_skip rfl (reader_store _ _ _ _ _ _ _ q (some ⟨bl, off + hd, none⟩) (sz - hd) (cap - hd) w3.drew rfl rfl) ?_
    refine hK.out _ _ ((unhide HPd).below ((Below.refl _ _).alloc (Nat.le_refl _) _)).range (fun hHeld => ?_)
    clear hK K
    simp only [Act.put]
    refine wpAnyH_done (by kernel_rfl) ?_ _
    refine NoPanic.normal ?_
    have hR : w3.drew.heap.size = w3.heap.size := rfl
    have HPR := hide (rdc_pk w3.drew q (some ⟨bl, off + hd, none⟩) (sz - hd) (cap - hd))
    have HRS := hide (rdc_rs w3 w3.drew q (some ⟨bl, off + hd, none⟩) (sz - hd) (cap - hd) ((l.drop hd).take (sz - hd)) (unhide HBY) (bel_drew w3))
    have HPA : Hid (Pk (w3.drew.alloc (.cells (rdc q (some ⟨bl, off + hd, none⟩) (sz - hd) (cap - hd)) 101)) w.heap.size q) := (unhide HPd).below ((Below.refl _ _).alloc (Nat.le_refl _) _)
    have HBA : Hid (Below w.heap.size w (w3.drew.alloc (.cells (rdc q (some ⟨bl, off + hd, none⟩) (sz - hd) (cap - hd)) 101))) := (unhide HBd).trans (((Below.refl _ _).alloc (Nat.le_refl _) _).mono (unhide HBd).size)
    have hAR : w.heap.size < w3.heap.size := (unhide HP3).lt
    have hWs : w3.heap.size < (w3.drew.alloc (.cells (rdc q (some ⟨bl, off + hd, none⟩) (sz - hd) (cap - hd)) 101)).heap.size := by simp
    rw [hR] at HPR HRS
    generalize w3.drew.alloc (.cells (rdc q (some ⟨bl, off + hd, none⟩) (sz - hd) (cap - hd)) 101) = w4 at HPR HRS HPA HBA hWs ⊢
    clear HPd HBd hHeld hR HP3
    go_wp2_with fail
    refine ((unhide HPK) _ (unhide HRS) (unhide HPR)).mono ?_
    rintro e w5 ⟨rfl, p', P', st', hp5, hM5, hs5, h5, hx5⟩
    have HP5 := hide hp5
    have HS5 := hide h5
    have HST5 := hide hs5
    have HA5 := hide ((unhide HPA).far hx5 (Nat.ne_of_lt hAR))
    have HB5 : Hid (Below w.heap.size w w5) := (unhide HBA).trans (hx5.below (Nat.le_of_lt hAR) (unhide HBA).size)
    have hR5 : w3.heap.size < w5.heap.size := Nat.lt_of_lt_of_le hWs hx5.size
    have HM5 : Hid (Mean w5 w3.heap.size.succ p' P') := (unhide hM5).base hWs
    clear hp5 h5 hs5 hx5 hM5 HPA HBA HPR HRS HPK
    cases st' with
    | none =>
      obtain ⟨t, x, d, k, c20, hd2, he⟩ := (unhide HS5).bad
      have HE5 := hide he
      clear he
      have HDN : Hid (dnum l = 1) := (unhide HD1) (stp_none (unhide HST5))
      go_wp2_with fail
      refine (pbroken d hd2 _ k _ (unhide HE5)).mono ?_
      rintro e w6 ⟨y, rfl, hE, hb6⟩
      have HP6 := hide ((unhide HA5).below hb6)
      have HB6 : Hid (Below w.heap.size w w6) := (unhide HB5).trans (hb6.mono (unhide HB5).size)
      clear hb6
      dsimp only
      go_step
      refine wpList_store_mid rfl 30 _ _ rfl w.heap.size 0 pkz.cells.toArray rfl rfl ((unhide HP6).there _) packet_size (Pkv.ones' _) ?_
      simp only [Act.put]
      have HPS := hide ((unhide HP6).stored pkz)
      have HBS : Hid (Below w.heap.size w (w6.setCells w.heap.size 0 pkz.cells)) := setCells_below (unhide HB6) (Nat.le_refl _)
      have HES : Hid (ErP (w6.setCells w.heap.size 0 pkz.cells) (.iface 149 y) 1) := erp_cells (unhide hE) (unhide HP6).dup
      generalize w6.setCells w.heap.size 0 pkz.cells = wS at HPS HBS HES ⊢
      go_wp2
      refine bodyPost_ret (res_pk3 (B := w.heap.size) (q := pkz) rfl rfl (unhide HPS)) rfl ?_
      exact dec_bad l w _ y 1 (unhide HDN) (by decide) HES (unhide HBS)
    | some l' =>
      have hds := stp_some (unhide HST5)
      have HDN : Hid (dnum l = 0) := (unhide HD0) hds
      have HDS := hide hds
      clear hds
      obtain ⟨_, _, c20⟩ | ⟨hno, _⟩ := (unhide HS5).err
      · go_upto_region 13 with fail
        iterate 4 go_step
        refine wpList_load_mid rfl 30 _ rfl w3.heap.size 0 rfl p'.cells _ (unhide HP5).range Tryz.underlying30 rfl packet_size ?_
        simp only [Act.put, List.setIfInBounds_toArray, List.set_cons_zero, List.set_cons_succ]
        iterate 3 go_step
        refine wpList_store_mid rfl 30 _ _ rfl w.heap.size 0 p'.cells.toArray rfl rfl ((unhide HA5).there _) packet_size (Pkv.ones' _) ?_
        simp only [Act.put]
        have HPS := hide ((unhide HA5).stored p')
        have HBS : Hid (Below w.heap.size w (w5.setCells w.heap.size 0 p'.cells)) := setCells_below (unhide HB5) (Nat.le_refl _)
        have HMS : Hid (Mean (w5.setCells w.heap.size 0 p'.cells) w.heap.size p' P') := ((unhide HM5).cells (Nat.lt_succ_of_lt hAR)).base (Nat.le_succ_of_le (Nat.le_of_lt hAR))
        generalize w5.setCells w.heap.size 0 p'.cells = w6 at HPS HBS HMS ⊢
        clear c20
        go_wp2
        refine bodyPost_ret (res_pk3 (B := w.heap.size) (q := p') rfl rfl (unhide HPS)) rfl ?_
        exact ⟨p', sz, .nilIface, rfl, .inr ⟨unhide HDN, (unhide HSZ), rfl, P', l', (unhide HDB).trans (unhide HDS), HMS⟩, unhide HBS⟩
      · cases hno
end Go.Proofs.YtoocdfgjkeheaaaGreatDoor.K
/- Proved here: packet.Decode at any bytes. Helper contracts. -/
namespace Go.Proofs.YtoocdfgjkeheaaaGreatDoor.K
open Go.RowKit

theorem decode_any (v : Value) (l : List Int) (w : World) (h : Byt w v l) : Calls Tryz.prog 33 #[v] w (DecPost l w) := by
  by_cases hl : l = []
  · subst hl
    obtain ⟨ao, cap, rfl, _⟩ := h.form
    exact dec_nil ao cap w
  · obtain ⟨b, off, cap, rfl, _⟩ := h.form1 (List.length_pos_iff.2 hl)
    cases hok : bok (l.getD 0 0)
    · exact dec_flag b off cap l w h hl hok
    · by_cases hm : (meas l).2.2 = 0
      · exact dec_body b off cap l w h hl hok hm
      · exact dec_meas b off cap l w h hl hok hm
end Go.Proofs.YtoocdfgjkeheaaaGreatDoor.K
/- Proved here: stream's New, Held, fault, fail. Helper contracts. -/
namespace Go.Proofs.YtoocdfgjkeheaaaGreatDoor.K
open Go.RowKit Go.Extern.Stop Go.Stop Go.Extern
set_option maxRecDepth 100000

def slim (n : Int) : Int := if n < 2 then 2 else if 65536 < n then 65536 else n
theorem slim_ok (n : Int) : 2 ≤ slim n ∧ slim n ≤ 65536 := by
  unfold slim
  split
  · omega
  · split <;> omega
theorem snew_any (n : Int) (w : World) : Calls Tryz.prog 38 #[.int .i64 n] w fun e w' => e = .returned (.pointer (some ⟨w.heap.size, 0, none⟩)) ∧ w' = w.alloc (.cells #[.int .i64 (slim n), .slice none 0 0, .int .i64 0] 115) := by
  by_cases h1 : n < 2
  · have hs : slim n = 2 := by unfold slim; rw [if_pos h1]
    rw [hs]
    go_enter Tryz.func38, Tryz.ntmps38
    go_wp2
    go_ret
    exact ⟨rfl, rfl⟩
  · by_cases h2 : 65536 < n
    · have hs : slim n = 65536 := by unfold slim; rw [if_neg h1, if_pos h2]
      rw [hs]
      go_enter Tryz.func38, Tryz.ntmps38
      go_wp2
      go_ret
      exact ⟨rfl, rfl⟩
    · have hs : slim n = n := by unfold slim; rw [if_neg h1, if_neg h2]
      rw [hs]
      go_enter Tryz.func38, Tryz.ntmps38
      go_wp2
      go_ret
      exact ⟨rfl, rfl⟩
theorem sheld_any (S : Nat) (ao : Option Addr) (n cap : Nat) (w : World) (h : w.cell? ⟨S, 1, none⟩ = some (.slice ao n cap)) : Calls Tryz.prog 45 #[.pointer (some ⟨S, 0, none⟩)] w fun e w' => e = .returned (.int .i64 n) ∧ w' = w := by
  go_enter Tryz.func45, Tryz.ntmps45
  go_wp2
  go_ret
  exact ⟨rfl, rfl⟩
abbrev swrapW (v : Value) (w : World) : World := w.alloc (.cells #[.string ⟨#[115, 116, 114, 101, 97, 109]⟩, v] 151)
theorem sfault_any (n : Int) (w : World) : Calls Tryz.prog 79 #[.int .i64 n] w fun e w' => e = .returned (.iface 149 (.pointer (some ⟨w.heap.size, 0, none⟩))) ∧ w' = swrapW (.iface 84 (.int .i64 n)) w := by
  go_enter Tryz.func79, Tryz.ntmps79
  go_wp2
  go_ret
  exact ⟨rfl, rfl⟩
end Go.Proofs.YtoocdfgjkeheaaaGreatDoor.K
/- Proved here: stream's measure. Helper contracts. -/
namespace Go.Proofs.YtoocdfgjkeheaaaGreatDoor.K
open Go.RowKit
set_option maxRecDepth 100000

theorem or_lo (i : Nat) (x y : Int) (hx0 : 0 ≤ x) (hx1 : x < 4611686018427387904) (hy0 : 0 ≤ y) (hy1 : y < 4611686018427387904) (hm : y.toNat % 2 ^ i = 0) (hx : x.toNat < 2 ^ i) : bits .or .i64 x y = x + y := by
  obtain ⟨a, rfl⟩ := Int.eq_ofNat_of_zero_le hx0
  obtain ⟨b, rfl⟩ := Int.eq_ofNat_of_zero_le hy0
  rw [i64_or_nat a b (by omega) (by omega), Nat.or_comm, nat_join i b a (by simpa using hm) (by simpa using hx)]
  omega
theorem or_lo0 (y : Int) (hy0 : 0 ≤ y) (hy1 : y < 4611686018427387904) : bits .or .i64 0 y = y := by
  rw [or_lo 0 0 y (by omega) (by omega) hy0 hy1 (by omega) (by decide)]; omega
theorem sm_s0 (ao : Option Addr) (cap : Nat) (w : World) : Calls Tryz.prog 174 #[.slice ao 0 cap] w fun e w' => e = .returned (.tuple #[.int .i64 0, .int .i64 0]) ∧ w' = w := by
  go_enter Tryz.func174, Tryz.ntmps174
  go_wp2
  refine wp_loop_rounds 1 ?_
  rw [rounds_succ]
  go_wp2
  go_ret2
  exact ⟨rfl, rfl⟩
theorem sm_o1_2 (b off cap : Nat) (x0 : Int) (w : World) (hc : 2 ≤ cap) (hcm : cap ≤ maxLen) (c0 : w.cell? ⟨b, off + 1, none⟩ = some (.int .u8 x0)) (p0 : 0 ≤ x0) (q0 : x0 ≤ 255) (g0 : x0 < 128) : Calls Tryz.prog 174 #[.slice (some ⟨b, off, none⟩) 2 cap] w fun e w' => e = .returned (.tuple #[.int .i64 2, .int .i64 (2 + (x0 % 128))]) ∧ w' = w := by
  unfold maxLen at hcm
  have o0 : bits .or .i64 0 (x0 % 128) = x0 % 128 := or_lo0 _ (by omega) (by omega)
  have hw : wrap64 (2 + (x0 % 128)) = 2 + (x0 % 128) := by unfold wrap64; omega
  go_enter Tryz.func174, Tryz.ntmps174
  go_wp2
  refine wp_loop_rounds 1 ?_
  rw [rounds_succ]
  go_wp2
  go_ret2
  first | exact ⟨rfl, rfl⟩ | (refine ⟨?_, rfl⟩; simp only [hw])
theorem sm_o1_3 (b off cap : Nat) (x0 : Int) (w : World) (hc : 3 ≤ cap) (hcm : cap ≤ maxLen) (c0 : w.cell? ⟨b, off + 1, none⟩ = some (.int .u8 x0)) (p0 : 0 ≤ x0) (q0 : x0 ≤ 255) (g0 : x0 < 128) : Calls Tryz.prog 174 #[.slice (some ⟨b, off, none⟩) 3 cap] w fun e w' => e = .returned (.tuple #[.int .i64 2, .int .i64 (2 + (x0 % 128))]) ∧ w' = w := by
  unfold maxLen at hcm
  have o0 : bits .or .i64 0 (x0 % 128) = x0 % 128 := or_lo0 _ (by omega) (by omega)
  have hw : wrap64 (2 + (x0 % 128)) = 2 + (x0 % 128) := by unfold wrap64; omega
  go_enter Tryz.func174, Tryz.ntmps174
  go_wp2
  refine wp_loop_rounds 1 ?_
  rw [rounds_succ]
  go_wp2
  go_ret2
  first | exact ⟨rfl, rfl⟩ | (refine ⟨?_, rfl⟩; simp only [hw])
theorem sm_o1_4 (b off cap : Nat) (x0 : Int) (w : World) (hc : 4 ≤ cap) (hcm : cap ≤ maxLen) (c0 : w.cell? ⟨b, off + 1, none⟩ = some (.int .u8 x0)) (p0 : 0 ≤ x0) (q0 : x0 ≤ 255) (g0 : x0 < 128) : Calls Tryz.prog 174 #[.slice (some ⟨b, off, none⟩) 4 cap] w fun e w' => e = .returned (.tuple #[.int .i64 2, .int .i64 (2 + (x0 % 128))]) ∧ w' = w := by
  unfold maxLen at hcm
  have o0 : bits .or .i64 0 (x0 % 128) = x0 % 128 := or_lo0 _ (by omega) (by omega)
  have hw : wrap64 (2 + (x0 % 128)) = 2 + (x0 % 128) := by unfold wrap64; omega
  go_enter Tryz.func174, Tryz.ntmps174
  go_wp2
  refine wp_loop_rounds 1 ?_
  rw [rounds_succ]
  go_wp2
  go_ret2
  first | exact ⟨rfl, rfl⟩ | (refine ⟨?_, rfl⟩; simp only [hw])
theorem sm_o1_n (b off n cap : Nat) (x0 : Int) (w : World) (hn : 5 ≤ n) (hc : n ≤ cap) (hcm : cap ≤ maxLen) (c0 : w.cell? ⟨b, off + 1, none⟩ = some (.int .u8 x0)) (p0 : 0 ≤ x0) (q0 : x0 ≤ 255) (g0 : x0 < 128) : Calls Tryz.prog 174 #[.slice (some ⟨b, off, none⟩) n cap] w fun e w' => e = .returned (.tuple #[.int .i64 2, .int .i64 (2 + (x0 % 128))]) ∧ w' = w := by
  unfold maxLen at hcm
  have hn' : (5 : Int) ≤ n := by omega
  have o0 : bits .or .i64 0 (x0 % 128) = x0 % 128 := or_lo0 _ (by omega) (by omega)
  have hw : wrap64 (2 + (x0 % 128)) = 2 + (x0 % 128) := by unfold wrap64; omega
  go_enter Tryz.func174, Tryz.ntmps174
  go_wp2
  refine wp_loop_rounds 1 ?_
  rw [rounds_succ]
  go_wp2
  go_ret2
  first | exact ⟨rfl, rfl⟩ | (refine ⟨?_, rfl⟩; simp only [hw])
theorem sm_o2_3 (b off cap : Nat) (x0 x1 : Int) (w : World) (hc : 3 ≤ cap) (hcm : cap ≤ maxLen) (c0 : w.cell? ⟨b, off + 1, none⟩ = some (.int .u8 x0)) (p0 : 0 ≤ x0) (q0 : x0 ≤ 255) (c1 : w.cell? ⟨b, off + 2, none⟩ = some (.int .u8 x1)) (p1 : 0 ≤ x1) (q1 : x1 ≤ 255) (g0 : 128 ≤ x0) (g1 : x1 < 128) : Calls Tryz.prog 174 #[.slice (some ⟨b, off, none⟩) 3 cap] w fun e w' => e = .returned (.tuple #[.int .i64 3, .int .i64 (3 + (x0 % 128 + x1 % 128 * 128))]) ∧ w' = w := by
  unfold maxLen at hcm
  have o0 : bits .or .i64 0 (x0 % 128) = x0 % 128 := or_lo0 _ (by omega) (by omega)
  have o1 : bits .or .i64 (x0 % 128) (x1 % 128 * 128) = x0 % 128 + x1 % 128 * 128 := or_lo 7 _ _ (by omega) (by omega) (by omega) (by omega) (by omega) (by omega)
  have hw : wrap64 (3 + (x0 % 128 + x1 % 128 * 128)) = 3 + (x0 % 128 + x1 % 128 * 128) := by unfold wrap64; omega
  go_enter Tryz.func174, Tryz.ntmps174
  go_wp2
  refine wp_loop_rounds 2 ?_
  rw [rounds_succ]
  go_wp2
  rw [rounds_succ]
  go_wp2
  go_ret2
  first | exact ⟨rfl, rfl⟩ | (refine ⟨?_, rfl⟩; simp only [hw])
theorem sm_o2_4 (b off cap : Nat) (x0 x1 : Int) (w : World) (hc : 4 ≤ cap) (hcm : cap ≤ maxLen) (c0 : w.cell? ⟨b, off + 1, none⟩ = some (.int .u8 x0)) (p0 : 0 ≤ x0) (q0 : x0 ≤ 255) (c1 : w.cell? ⟨b, off + 2, none⟩ = some (.int .u8 x1)) (p1 : 0 ≤ x1) (q1 : x1 ≤ 255) (g0 : 128 ≤ x0) (g1 : x1 < 128) : Calls Tryz.prog 174 #[.slice (some ⟨b, off, none⟩) 4 cap] w fun e w' => e = .returned (.tuple #[.int .i64 3, .int .i64 (3 + (x0 % 128 + x1 % 128 * 128))]) ∧ w' = w := by
  unfold maxLen at hcm
  have o0 : bits .or .i64 0 (x0 % 128) = x0 % 128 := or_lo0 _ (by omega) (by omega)
  have o1 : bits .or .i64 (x0 % 128) (x1 % 128 * 128) = x0 % 128 + x1 % 128 * 128 := or_lo 7 _ _ (by omega) (by omega) (by omega) (by omega) (by omega) (by omega)
  have hw : wrap64 (3 + (x0 % 128 + x1 % 128 * 128)) = 3 + (x0 % 128 + x1 % 128 * 128) := by unfold wrap64; omega
  go_enter Tryz.func174, Tryz.ntmps174
  go_wp2
  refine wp_loop_rounds 2 ?_
  rw [rounds_succ]
  go_wp2
  rw [rounds_succ]
  go_wp2
  go_ret2
  first | exact ⟨rfl, rfl⟩ | (refine ⟨?_, rfl⟩; simp only [hw])
theorem sm_o2_n (b off n cap : Nat) (x0 x1 : Int) (w : World) (hn : 5 ≤ n) (hc : n ≤ cap) (hcm : cap ≤ maxLen) (c0 : w.cell? ⟨b, off + 1, none⟩ = some (.int .u8 x0)) (p0 : 0 ≤ x0) (q0 : x0 ≤ 255) (c1 : w.cell? ⟨b, off + 2, none⟩ = some (.int .u8 x1)) (p1 : 0 ≤ x1) (q1 : x1 ≤ 255) (g0 : 128 ≤ x0) (g1 : x1 < 128) : Calls Tryz.prog 174 #[.slice (some ⟨b, off, none⟩) n cap] w fun e w' => e = .returned (.tuple #[.int .i64 3, .int .i64 (3 + (x0 % 128 + x1 % 128 * 128))]) ∧ w' = w := by
  unfold maxLen at hcm
  have hn' : (5 : Int) ≤ n := by omega
  have o0 : bits .or .i64 0 (x0 % 128) = x0 % 128 := or_lo0 _ (by omega) (by omega)
  have o1 : bits .or .i64 (x0 % 128) (x1 % 128 * 128) = x0 % 128 + x1 % 128 * 128 := or_lo 7 _ _ (by omega) (by omega) (by omega) (by omega) (by omega) (by omega)
  have hw : wrap64 (3 + (x0 % 128 + x1 % 128 * 128)) = 3 + (x0 % 128 + x1 % 128 * 128) := by unfold wrap64; omega
  go_enter Tryz.func174, Tryz.ntmps174
  go_wp2
  refine wp_loop_rounds 2 ?_
  rw [rounds_succ]
  go_wp2
  rw [rounds_succ]
  go_wp2
  go_ret2
  first | exact ⟨rfl, rfl⟩ | (refine ⟨?_, rfl⟩; simp only [hw])
theorem sm_o3_4 (b off cap : Nat) (x0 x1 x2 : Int) (w : World) (hc : 4 ≤ cap) (hcm : cap ≤ maxLen) (c0 : w.cell? ⟨b, off + 1, none⟩ = some (.int .u8 x0)) (p0 : 0 ≤ x0) (q0 : x0 ≤ 255) (c1 : w.cell? ⟨b, off + 2, none⟩ = some (.int .u8 x1)) (p1 : 0 ≤ x1) (q1 : x1 ≤ 255) (c2 : w.cell? ⟨b, off + 3, none⟩ = some (.int .u8 x2)) (p2 : 0 ≤ x2) (q2 : x2 ≤ 255) (g0 : 128 ≤ x0) (g1 : 128 ≤ x1) (g2 : x2 < 128) : Calls Tryz.prog 174 #[.slice (some ⟨b, off, none⟩) 4 cap] w fun e w' => e = .returned (.tuple #[.int .i64 4, .int .i64 (4 + (x0 % 128 + x1 % 128 * 128 + x2 % 128 * 16384))]) ∧ w' = w := by
  unfold maxLen at hcm
  have o0 : bits .or .i64 0 (x0 % 128) = x0 % 128 := or_lo0 _ (by omega) (by omega)
  have o1 : bits .or .i64 (x0 % 128) (x1 % 128 * 128) = x0 % 128 + x1 % 128 * 128 := or_lo 7 _ _ (by omega) (by omega) (by omega) (by omega) (by omega) (by omega)
  have o2 : bits .or .i64 (x0 % 128 + x1 % 128 * 128) (x2 % 128 * 16384) = x0 % 128 + x1 % 128 * 128 + x2 % 128 * 16384 := or_lo 14 _ _ (by omega) (by omega) (by omega) (by omega) (by omega) (by omega)
  have hw : wrap64 (4 + (x0 % 128 + x1 % 128 * 128 + x2 % 128 * 16384)) = 4 + (x0 % 128 + x1 % 128 * 128 + x2 % 128 * 16384) := by unfold wrap64; omega
  go_enter Tryz.func174, Tryz.ntmps174
  go_wp2
  refine wp_loop_rounds 3 ?_
  rw [rounds_succ]
  go_wp2
  rw [rounds_succ]
  go_wp2
  rw [rounds_succ]
  go_wp2
  go_ret2
  first | exact ⟨rfl, rfl⟩ | (refine ⟨?_, rfl⟩; simp only [hw])
theorem sm_o3_n (b off n cap : Nat) (x0 x1 x2 : Int) (w : World) (hn : 5 ≤ n) (hc : n ≤ cap) (hcm : cap ≤ maxLen) (c0 : w.cell? ⟨b, off + 1, none⟩ = some (.int .u8 x0)) (p0 : 0 ≤ x0) (q0 : x0 ≤ 255) (c1 : w.cell? ⟨b, off + 2, none⟩ = some (.int .u8 x1)) (p1 : 0 ≤ x1) (q1 : x1 ≤ 255) (c2 : w.cell? ⟨b, off + 3, none⟩ = some (.int .u8 x2)) (p2 : 0 ≤ x2) (q2 : x2 ≤ 255) (g0 : 128 ≤ x0) (g1 : 128 ≤ x1) (g2 : x2 < 128) : Calls Tryz.prog 174 #[.slice (some ⟨b, off, none⟩) n cap] w fun e w' => e = .returned (.tuple #[.int .i64 4, .int .i64 (4 + (x0 % 128 + x1 % 128 * 128 + x2 % 128 * 16384))]) ∧ w' = w := by
  unfold maxLen at hcm
  have hn' : (5 : Int) ≤ n := by omega
  have o0 : bits .or .i64 0 (x0 % 128) = x0 % 128 := or_lo0 _ (by omega) (by omega)
  have o1 : bits .or .i64 (x0 % 128) (x1 % 128 * 128) = x0 % 128 + x1 % 128 * 128 := or_lo 7 _ _ (by omega) (by omega) (by omega) (by omega) (by omega) (by omega)
  have o2 : bits .or .i64 (x0 % 128 + x1 % 128 * 128) (x2 % 128 * 16384) = x0 % 128 + x1 % 128 * 128 + x2 % 128 * 16384 := or_lo 14 _ _ (by omega) (by omega) (by omega) (by omega) (by omega) (by omega)
  have hw : wrap64 (4 + (x0 % 128 + x1 % 128 * 128 + x2 % 128 * 16384)) = 4 + (x0 % 128 + x1 % 128 * 128 + x2 % 128 * 16384) := by unfold wrap64; omega
  go_enter Tryz.func174, Tryz.ntmps174
  go_wp2
  refine wp_loop_rounds 3 ?_
  rw [rounds_succ]
  go_wp2
  rw [rounds_succ]
  go_wp2
  rw [rounds_succ]
  go_wp2
  go_ret2
  first | exact ⟨rfl, rfl⟩ | (refine ⟨?_, rfl⟩; simp only [hw])
theorem sm_o4_n (b off n cap : Nat) (x0 x1 x2 x3 : Int) (w : World) (hn : 5 ≤ n) (hc : n ≤ cap) (hcm : cap ≤ maxLen) (c0 : w.cell? ⟨b, off + 1, none⟩ = some (.int .u8 x0)) (p0 : 0 ≤ x0) (q0 : x0 ≤ 255) (c1 : w.cell? ⟨b, off + 2, none⟩ = some (.int .u8 x1)) (p1 : 0 ≤ x1) (q1 : x1 ≤ 255) (c2 : w.cell? ⟨b, off + 3, none⟩ = some (.int .u8 x2)) (p2 : 0 ≤ x2) (q2 : x2 ≤ 255) (c3 : w.cell? ⟨b, off + 4, none⟩ = some (.int .u8 x3)) (p3 : 0 ≤ x3) (q3 : x3 ≤ 255) (g0 : 128 ≤ x0) (g1 : 128 ≤ x1) (g2 : 128 ≤ x2) (g3 : x3 < 128) : Calls Tryz.prog 174 #[.slice (some ⟨b, off, none⟩) n cap] w fun e w' => e = .returned (.tuple #[.int .i64 5, .int .i64 (5 + (x0 % 128 + x1 % 128 * 128 + x2 % 128 * 16384 + x3 % 128 * 2097152))]) ∧ w' = w := by
  unfold maxLen at hcm
  have hn' : (5 : Int) ≤ n := by omega
  have o0 : bits .or .i64 0 (x0 % 128) = x0 % 128 := or_lo0 _ (by omega) (by omega)
  have o1 : bits .or .i64 (x0 % 128) (x1 % 128 * 128) = x0 % 128 + x1 % 128 * 128 := or_lo 7 _ _ (by omega) (by omega) (by omega) (by omega) (by omega) (by omega)
  have o2 : bits .or .i64 (x0 % 128 + x1 % 128 * 128) (x2 % 128 * 16384) = x0 % 128 + x1 % 128 * 128 + x2 % 128 * 16384 := or_lo 14 _ _ (by omega) (by omega) (by omega) (by omega) (by omega) (by omega)
  have o3 : bits .or .i64 (x0 % 128 + x1 % 128 * 128 + x2 % 128 * 16384) (x3 % 128 * 2097152) = x0 % 128 + x1 % 128 * 128 + x2 % 128 * 16384 + x3 % 128 * 2097152 := or_lo 21 _ _ (by omega) (by omega) (by omega) (by omega) (by omega) (by omega)
  have hw : wrap64 (5 + (x0 % 128 + x1 % 128 * 128 + x2 % 128 * 16384 + x3 % 128 * 2097152)) = 5 + (x0 % 128 + x1 % 128 * 128 + x2 % 128 * 16384 + x3 % 128 * 2097152) := by unfold wrap64; omega
  go_enter Tryz.func174, Tryz.ntmps174
  go_wp2
  refine wp_loop_rounds 4 ?_
  rw [rounds_succ]
  go_wp2
  rw [rounds_succ]
  go_wp2
  rw [rounds_succ]
  go_wp2
  rw [rounds_succ]
  go_wp2
  go_ret2
  first | exact ⟨rfl, rfl⟩ | (refine ⟨?_, rfl⟩; simp only [hw])
theorem sm_x0_1 (b off cap : Nat) (w : World) (hc : 1 ≤ cap) (hcm : cap ≤ maxLen)   : Calls Tryz.prog 174 #[.slice (some ⟨b, off, none⟩) 1 cap] w fun e w' => e = .returned (.tuple #[.int .i64 0, .int .i64 0]) ∧ w' = w := by
  unfold maxLen at hcm
  by_cases hcap : cap = 1
  · subst hcap
    go_enter Tryz.func174, Tryz.ntmps174
    go_wp2
    refine wp_loop_rounds 1 ?_
    rw [rounds_succ]
    go_wp2
    go_ret2
    exact ⟨rfl, rfl⟩
  · go_enter Tryz.func174, Tryz.ntmps174
    go_wp2
    refine wp_loop_rounds 1 ?_
    rw [rounds_succ]
    go_wp2
    go_ret2
    exact ⟨rfl, rfl⟩
theorem sm_x1_2 (b off cap : Nat) (x0 : Int) (w : World) (hc : 2 ≤ cap) (hcm : cap ≤ maxLen) (c0 : w.cell? ⟨b, off + 1, none⟩ = some (.int .u8 x0)) (p0 : 0 ≤ x0) (q0 : x0 ≤ 255) (g0 : 128 ≤ x0) : Calls Tryz.prog 174 #[.slice (some ⟨b, off, none⟩) 2 cap] w fun e w' => e = .returned (.tuple #[.int .i64 0, .int .i64 0]) ∧ w' = w := by
  unfold maxLen at hcm
  have o0 : bits .or .i64 0 (x0 % 128) = x0 % 128 := or_lo0 _ (by omega) (by omega)
  go_enter Tryz.func174, Tryz.ntmps174
  go_wp2
  refine wp_loop_rounds 2 ?_
  rw [rounds_succ]
  go_wp2
  rw [rounds_succ]
  go_wp2
  go_ret2
  exact ⟨rfl, rfl⟩
theorem sm_x2_3 (b off cap : Nat) (x0 x1 : Int) (w : World) (hc : 3 ≤ cap) (hcm : cap ≤ maxLen) (c0 : w.cell? ⟨b, off + 1, none⟩ = some (.int .u8 x0)) (p0 : 0 ≤ x0) (q0 : x0 ≤ 255) (c1 : w.cell? ⟨b, off + 2, none⟩ = some (.int .u8 x1)) (p1 : 0 ≤ x1) (q1 : x1 ≤ 255) (g0 : 128 ≤ x0) (g1 : 128 ≤ x1) : Calls Tryz.prog 174 #[.slice (some ⟨b, off, none⟩) 3 cap] w fun e w' => e = .returned (.tuple #[.int .i64 0, .int .i64 0]) ∧ w' = w := by
  unfold maxLen at hcm
  have o0 : bits .or .i64 0 (x0 % 128) = x0 % 128 := or_lo0 _ (by omega) (by omega)
  have o1 : bits .or .i64 (x0 % 128) (x1 % 128 * 128) = x0 % 128 + x1 % 128 * 128 := or_lo 7 _ _ (by omega) (by omega) (by omega) (by omega) (by omega) (by omega)
  go_enter Tryz.func174, Tryz.ntmps174
  go_wp2
  refine wp_loop_rounds 3 ?_
  rw [rounds_succ]
  go_wp2
  rw [rounds_succ]
  go_wp2
  rw [rounds_succ]
  go_wp2
  go_ret2
  exact ⟨rfl, rfl⟩
theorem sm_x3_4 (b off cap : Nat) (x0 x1 x2 : Int) (w : World) (hc : 4 ≤ cap) (hcm : cap ≤ maxLen) (c0 : w.cell? ⟨b, off + 1, none⟩ = some (.int .u8 x0)) (p0 : 0 ≤ x0) (q0 : x0 ≤ 255) (c1 : w.cell? ⟨b, off + 2, none⟩ = some (.int .u8 x1)) (p1 : 0 ≤ x1) (q1 : x1 ≤ 255) (c2 : w.cell? ⟨b, off + 3, none⟩ = some (.int .u8 x2)) (p2 : 0 ≤ x2) (q2 : x2 ≤ 255) (g0 : 128 ≤ x0) (g1 : 128 ≤ x1) (g2 : 128 ≤ x2) : Calls Tryz.prog 174 #[.slice (some ⟨b, off, none⟩) 4 cap] w fun e w' => e = .returned (.tuple #[.int .i64 0, .int .i64 0]) ∧ w' = w := by
  unfold maxLen at hcm
  have o0 : bits .or .i64 0 (x0 % 128) = x0 % 128 := or_lo0 _ (by omega) (by omega)
  have o1 : bits .or .i64 (x0 % 128) (x1 % 128 * 128) = x0 % 128 + x1 % 128 * 128 := or_lo 7 _ _ (by omega) (by omega) (by omega) (by omega) (by omega) (by omega)
  have o2 : bits .or .i64 (x0 % 128 + x1 % 128 * 128) (x2 % 128 * 16384) = x0 % 128 + x1 % 128 * 128 + x2 % 128 * 16384 := or_lo 14 _ _ (by omega) (by omega) (by omega) (by omega) (by omega) (by omega)
  go_enter Tryz.func174, Tryz.ntmps174
  go_wp2
  refine wp_loop_rounds 4 ?_
  rw [rounds_succ]
  go_wp2
  rw [rounds_succ]
  go_wp2
  rw [rounds_succ]
  go_wp2
  rw [rounds_succ]
  go_wp2
  go_ret2
  exact ⟨rfl, rfl⟩
theorem sm_x4_n (b off n cap : Nat) (x0 x1 x2 x3 : Int) (w : World) (hn : 5 ≤ n) (hc : n ≤ cap) (hcm : cap ≤ maxLen) (c0 : w.cell? ⟨b, off + 1, none⟩ = some (.int .u8 x0)) (p0 : 0 ≤ x0) (q0 : x0 ≤ 255) (c1 : w.cell? ⟨b, off + 2, none⟩ = some (.int .u8 x1)) (p1 : 0 ≤ x1) (q1 : x1 ≤ 255) (c2 : w.cell? ⟨b, off + 3, none⟩ = some (.int .u8 x2)) (p2 : 0 ≤ x2) (q2 : x2 ≤ 255) (c3 : w.cell? ⟨b, off + 4, none⟩ = some (.int .u8 x3)) (p3 : 0 ≤ x3) (q3 : x3 ≤ 255) (g0 : 128 ≤ x0) (g1 : 128 ≤ x1) (g2 : 128 ≤ x2) (g3 : 128 ≤ x3) : Calls Tryz.prog 174 #[.slice (some ⟨b, off, none⟩) n cap] w fun e w' => e = .returned (.tuple #[.int .i64 0, .int .i64 0]) ∧ w' = w := by
  unfold maxLen at hcm
  have hn' : (5 : Int) ≤ n := by omega
  have o0 : bits .or .i64 0 (x0 % 128) = x0 % 128 := or_lo0 _ (by omega) (by omega)
  have o1 : bits .or .i64 (x0 % 128) (x1 % 128 * 128) = x0 % 128 + x1 % 128 * 128 := or_lo 7 _ _ (by omega) (by omega) (by omega) (by omega) (by omega) (by omega)
  have o2 : bits .or .i64 (x0 % 128 + x1 % 128 * 128) (x2 % 128 * 16384) = x0 % 128 + x1 % 128 * 128 + x2 % 128 * 16384 := or_lo 14 _ _ (by omega) (by omega) (by omega) (by omega) (by omega) (by omega)
  have o3 : bits .or .i64 (x0 % 128 + x1 % 128 * 128 + x2 % 128 * 16384) (x3 % 128 * 2097152) = x0 % 128 + x1 % 128 * 128 + x2 % 128 * 16384 + x3 % 128 * 2097152 := or_lo 21 _ _ (by omega) (by omega) (by omega) (by omega) (by omega) (by omega)
  go_enter Tryz.func174, Tryz.ntmps174
  go_wp2
  refine wp_loop_rounds 5 ?_
  rw [rounds_succ]
  go_wp2
  rw [rounds_succ]
  go_wp2
  rw [rounds_succ]
  go_wp2
  rw [rounds_succ]
  go_wp2
  rw [rounds_succ]
  go_wp2
  go_ret2
  exact ⟨rfl, rfl⟩
/-- bytes ahead of the body, bytes in all; zeros while that is not known -/
def smeas (l : List Int) : Int × Int :=
  if l.length ≤ 1 then (0, 0)
  else if l.getD 1 0 < 128 then (2, 2 + (l.getD 1 0 % 128))
  else if l.length ≤ 2 then (0, 0)
  else if l.getD 2 0 < 128 then (3, 3 + (l.getD 1 0 % 128 + l.getD 2 0 % 128 * 128))
  else if l.length ≤ 3 then (0, 0)
  else if l.getD 3 0 < 128 then (4, 4 + (l.getD 1 0 % 128 + l.getD 2 0 % 128 * 128 + l.getD 3 0 % 128 * 16384))
  else if l.length ≤ 4 then (0, 0)
  else if l.getD 4 0 < 128 then (5, 5 + (l.getD 1 0 % 128 + l.getD 2 0 % 128 * 128 + l.getD 3 0 % 128 * 16384 + l.getD 4 0 % 128 * 2097152))
  else (0, 0)
theorem smeas_any (v : Value) (l : List Int) (w : World) (h : Byt w v l) : Calls Tryz.prog 174 #[v] w fun e w' => e = .returned (.tuple #[.int .i64 (smeas l).1, .int .i64 (smeas l).2]) ∧ w' = w := by
  have hr := h.range
  by_cases hl : l.length = 0
  · obtain ⟨ao, cap, e, _, _⟩ := h.form
    subst e
    rw [hl]
    have e : smeas l = (0, 0) := by unfold smeas; rw [if_pos (by omega)]
    rw [e]
    exact sm_s0 ao cap w
  · obtain ⟨ao, cap, e, ⟨h1, h2⟩, _, hcase⟩ := h
    subst e
    rcases hcase with rfl | ⟨b, off, rfl, hc⟩
    · simp at hl
    have hcj : ∀ j, j + 1 < l.length → w.cell? ⟨b, off + (j + 1), none⟩ = some (.int .u8 (l.getD (j + 1) 0)) := fun j hj => hc (j + 1) hj
    generalize hn : l.length = n at *
    by_cases k0 : n ≤ 1
    · skip
      have e : smeas l = (0, 0) := by
        unfold smeas
        rw [hn, if_pos (by omega)]
      rw [e]
      obtain rfl : n = 1 := by omega
      exact sm_x0_1 b off cap  w  h1 h2  
    by_cases j1 : l.getD 1 0 < 128
    · skip
      have e : smeas l = (2, 2 + (l.getD 1 0 % 128)) := by
        unfold smeas
        rw [hn, if_neg (by omega), if_pos (by omega)]
      rw [e]
      by_cases hm2 : n = 2
      · subst hm2
        exact sm_o1_2 b off cap (l.getD 1 0) w  h1 h2 (hcj 0 (by omega)) (hr 1).1 (hr 1).2 (by omega)
      by_cases hm3 : n = 3
      · subst hm3
        exact sm_o1_3 b off cap (l.getD 1 0) w  h1 h2 (hcj 0 (by omega)) (hr 1).1 (hr 1).2 (by omega)
      by_cases hm4 : n = 4
      · subst hm4
        exact sm_o1_4 b off cap (l.getD 1 0) w  h1 h2 (hcj 0 (by omega)) (hr 1).1 (hr 1).2 (by omega)
      exact sm_o1_n b off n cap (l.getD 1 0) w (by omega)  h1 h2 (hcj 0 (by omega)) (hr 1).1 (hr 1).2 (by omega)
    by_cases k1 : n ≤ 2
    · skip
      have e : smeas l = (0, 0) := by
        unfold smeas
        rw [hn, if_neg (by omega), if_neg (by omega), if_pos (by omega)]
      rw [e]
      obtain rfl : n = 2 := by omega
      exact sm_x1_2 b off cap (l.getD 1 0) w  h1 h2 (hcj 0 (by omega)) (hr 1).1 (hr 1).2 (by omega)
    by_cases j2 : l.getD 2 0 < 128
    · skip
      have e : smeas l = (3, 3 + (l.getD 1 0 % 128 + l.getD 2 0 % 128 * 128)) := by
        unfold smeas
        rw [hn, if_neg (by omega), if_neg (by omega), if_neg (by omega), if_pos (by omega)]
      rw [e]
      by_cases hm3 : n = 3
      · subst hm3
        exact sm_o2_3 b off cap (l.getD 1 0) (l.getD 2 0) w  h1 h2 (hcj 0 (by omega)) (hr 1).1 (hr 1).2 (hcj 1 (by omega)) (hr 2).1 (hr 2).2 (by omega) (by omega)
      by_cases hm4 : n = 4
      · subst hm4
        exact sm_o2_4 b off cap (l.getD 1 0) (l.getD 2 0) w  h1 h2 (hcj 0 (by omega)) (hr 1).1 (hr 1).2 (hcj 1 (by omega)) (hr 2).1 (hr 2).2 (by omega) (by omega)
      exact sm_o2_n b off n cap (l.getD 1 0) (l.getD 2 0) w (by omega)  h1 h2 (hcj 0 (by omega)) (hr 1).1 (hr 1).2 (hcj 1 (by omega)) (hr 2).1 (hr 2).2 (by omega) (by omega)
    by_cases k2 : n ≤ 3
    · skip
      have e : smeas l = (0, 0) := by
        unfold smeas
        rw [hn, if_neg (by omega), if_neg (by omega), if_neg (by omega), if_neg (by omega), if_pos (by omega)]
      rw [e]
      obtain rfl : n = 3 := by omega
      exact sm_x2_3 b off cap (l.getD 1 0) (l.getD 2 0) w  h1 h2 (hcj 0 (by omega)) (hr 1).1 (hr 1).2 (hcj 1 (by omega)) (hr 2).1 (hr 2).2 (by omega) (by omega)
    by_cases j3 : l.getD 3 0 < 128
    · skip
      have e : smeas l = (4, 4 + (l.getD 1 0 % 128 + l.getD 2 0 % 128 * 128 + l.getD 3 0 % 128 * 16384)) := by
        unfold smeas
        rw [hn, if_neg (by omega), if_neg (by omega), if_neg (by omega), if_neg (by omega), if_neg (by omega), if_pos (by omega)]
      rw [e]
      by_cases hm4 : n = 4
      · subst hm4
        exact sm_o3_4 b off cap (l.getD 1 0) (l.getD 2 0) (l.getD 3 0) w  h1 h2 (hcj 0 (by omega)) (hr 1).1 (hr 1).2 (hcj 1 (by omega)) (hr 2).1 (hr 2).2 (hcj 2 (by omega)) (hr 3).1 (hr 3).2 (by omega) (by omega) (by omega)
      exact sm_o3_n b off n cap (l.getD 1 0) (l.getD 2 0) (l.getD 3 0) w (by omega)  h1 h2 (hcj 0 (by omega)) (hr 1).1 (hr 1).2 (hcj 1 (by omega)) (hr 2).1 (hr 2).2 (hcj 2 (by omega)) (hr 3).1 (hr 3).2 (by omega) (by omega) (by omega)
    by_cases k3 : n ≤ 4
    · skip
      have e : smeas l = (0, 0) := by
        unfold smeas
        rw [hn, if_neg (by omega), if_neg (by omega), if_neg (by omega), if_neg (by omega), if_neg (by omega), if_neg (by omega), if_pos (by omega)]
      rw [e]
      obtain rfl : n = 4 := by omega
      exact sm_x3_4 b off cap (l.getD 1 0) (l.getD 2 0) (l.getD 3 0) w  h1 h2 (hcj 0 (by omega)) (hr 1).1 (hr 1).2 (hcj 1 (by omega)) (hr 2).1 (hr 2).2 (hcj 2 (by omega)) (hr 3).1 (hr 3).2 (by omega) (by omega) (by omega)
    by_cases j4 : l.getD 4 0 < 128
    · skip
      have e : smeas l = (5, 5 + (l.getD 1 0 % 128 + l.getD 2 0 % 128 * 128 + l.getD 3 0 % 128 * 16384 + l.getD 4 0 % 128 * 2097152)) := by
        unfold smeas
        rw [hn, if_neg (by omega), if_neg (by omega), if_neg (by omega), if_neg (by omega), if_neg (by omega), if_neg (by omega), if_neg (by omega), if_pos (by omega)]
      rw [e]
      exact sm_o4_n b off n cap (l.getD 1 0) (l.getD 2 0) (l.getD 3 0) (l.getD 4 0) w (by omega)  h1 h2 (hcj 0 (by omega)) (hr 1).1 (hr 1).2 (hcj 1 (by omega)) (hr 2).1 (hr 2).2 (hcj 2 (by omega)) (hr 3).1 (hr 3).2 (hcj 3 (by omega)) (hr 4).1 (hr 4).2 (by omega) (by omega) (by omega) (by omega)
    have e : smeas l = (0, 0) := by
      unfold smeas
      rw [hn, if_neg (by omega), if_neg (by omega), if_neg (by omega), if_neg (by omega), if_neg (by omega), if_neg (by omega), if_neg (by omega), if_neg (by omega)]
    rw [e]
    exact sm_x4_n b off n cap (l.getD 1 0) (l.getD 2 0) (l.getD 3 0) (l.getD 4 0) w (by omega)  h1 h2 (hcj 0 (by omega)) (hr 1).1 (hr 1).2 (hcj 1 (by omega)) (hr 2).1 (hr 2).2 (hcj 2 (by omega)) (hr 3).1 (hr 3).2 (hcj 3 (by omega)) (hr 4).1 (hr 4).2 (by omega) (by omega) (by omega) (by omega)
end Go.Proofs.YtoocdfgjkeheaaaGreatDoor.K
/- Proved here: stream's fail. Helper contracts. -/
namespace Go.Proofs.YtoocdfgjkeheaaaGreatDoor.K
open Go.RowKit Go.Extern.Stop Go.Stop Go.Extern
set_option maxRecDepth 100000

theorem sfault_use (n : Int) (w : World) : Calls Tryz.prog 79 #[.int .i64 n] w fun e w' => ∃ x, e = .returned (.iface 149 x) ∧ Hid (Er w' 1 (.iface 149 x) n) ∧ Below w.heap.size w w' := by
  refine (sfault_any n w).mono ?_
  rintro e w' ⟨rfl, rfl⟩
  exact ⟨_, rfl, ⟨w.heap.size, _, rfl, by simp, rfl⟩, (Below.refl _ _).alloc (Nat.le_refl _) _⟩
def FailPost (S : Nat) (n : Int) (w : World) (e : Ending) (w' : World) : Prop :=
  ∃ x, e = .returned (.iface 149 x) ∧ Hid (Er w' 1 (.iface 149 x) n) ∧ w'.cell? ⟨S, 1, none⟩ = some (.slice none 0 0) ∧ w'.cell? ⟨S, 2, none⟩ = some (.int .i64 n) ∧ Hid (BX S (fun j => j = 1 ∨ j = 2) w w')
theorem sfail_any (S : Nat) (d : Nat) (hd : d ≤ 3) (v : Value) (n m : Int) (hv : Value) (w : World) (hg : Laid w) (h : Er w d v n) (h1 : w.cell? ⟨S, 1, none⟩ = some hv) (h2 : w.cell? ⟨S, 2, none⟩ = some (.int .i64 m)) (hf1 : w.frozen? ⟨S, 1, none⟩ = false) (hf : w.frozen? ⟨S, 2, none⟩ = false) :
    Calls Tryz.prog 82 #[.pointer (some ⟨S, 0, none⟩), v] w (FailPost S n w) := by
  have hA := er_as d hd v n ⟨S, 2, none⟩ _ w hg h h2 hf
  have hS : S < w.heap.size := cell_lt h1
  obtain ⟨t, x, rfl⟩ := h.iface
  have HK : Hid (∀ W : World, Below w.heap.size w W → ∀ W', W' = W.setCell ⟨S, 2, none⟩ (.int .i64 n) → BX S (fun j => j = 1 ∨ j = 2) w W' ∧ W'.cell? ⟨S, 2, none⟩ = some (.int .i64 n) ∧ W'.cell? ⟨S, 1, none⟩ = some hv ∧ W'.frozen? ⟨S, 1, none⟩ = false) := by
    rintro W hB W' rfl
    have c2 : W.cell? ⟨S, 2, none⟩ = some (.int .i64 m) := (hB.cell hS).trans h2
    have c1 : W.cell? ⟨S, 1, none⟩ = some hv := (hB.cell hS).trans h1
    refine ⟨(BX.of_below hB hS).set 2 _ (.inr rfl), World.cell?_setCell_same _ _ _ c2, ?_, ?_⟩
    · rw [World.cell?_setCell_other _ _ _ _ (fun e => by simp at e)]; exact c1
    · rw [World.frozen?_setCell]; exact (hB.frozen hS).trans hf1
  have HA := hide hA
  clear hA hg h h1 h2 hf hf1
  go_enter Tryz.func82, Tryz.ntmps82
  go_wp2_with fail
  refine (unhide HA).mono ?_
  rintro e w1 ⟨rfl, hw1⟩
  obtain ⟨hx, c2, c1, f1⟩ := (unhide HK) _ ((((Below.refl _ _).alloc (Nat.le_refl _) _).alloc (by simp) _).alloc (by simp; omega) _ |>.alloc (by simp; omega) _) w1 hw1
  have HX := hide hx
  clear hx hw1 HK HA
  go_wp2_with fail
  refine (sfault_use n _).mono ?_
  rintro e w2 ⟨y, rfl, hE, hb⟩
  have hS1 : S < w1.heap.size := cell_lt c1
  have k2 : w2.cell? ⟨S, 2, none⟩ = some (.int .i64 n) := (hb.cell (by simpa [World.setCell] using hS1)).trans ((World.cell?_setCell_other _ _ _ _ (fun e => by simp at e)).trans c2)
  have k1 : w2.cell? ⟨S, 1, none⟩ = some (.slice none 0 0) := (hb.cell (by simpa [World.setCell] using hS1)).trans (World.cell?_setCell_same _ _ _ c1)
  have kx := ((unhide HX).set 1 (.slice none 0 0) (.inl rfl)).trans (BX.of_below hb (by simpa [World.setCell] using hS1))
  have KX := hide kx
  clear kx hb HX c1 c2 f1
  go_wp2
  go_ret
  exact ⟨_, rfl, hE, k1, k2, KX⟩
end Go.Proofs.YtoocdfgjkeheaaaGreatDoor.K
/- Proved here: stream's next. Helper contracts. -/
namespace Go.Proofs.YtoocdfgjkeheaaaGreatDoor.K
open Go.RowKit
set_option maxRecDepth 100000

theorem is_nil (m : Int) (w : World) : Calls Tryz.prog 81 #[.nilIface, .iface 84 (.int .i64 m)] w fun e w' => e = .returned (.bool false) ∧ w' = w := by
  have e1 : ∀ W, (binOp .eql 37 .nilIface (.iface 84 (.int .i64 m))).run Tryz.prog W = .ok (.bool false) W := fun W => by kernel_rfl
  go_enter Tryz.func81, Tryz.ntmps81
  go_wp2
  first | go_ret | go_ret2
  exact ⟨rfl, rfl⟩
theorem smeas_nat (l : List Int) (hr : ∀ j, 0 ≤ l.getD j 0 ∧ l.getD j 0 ≤ 255) : ∃ K N : Nat, smeas l = ((K : Int), (N : Int)) ∧ K ≤ l.length ∧ N ≤ 1000000000 ∧ (N ≠ 0 → 2 ≤ K ∧ K ≤ N) := by
  have h1 := hr 1
  have h2 := hr 2
  have h3 := hr 3
  have h4 := hr 4
  have key : ∀ (p : Int × Int) , 0 ≤ p.1 → 0 ≤ p.2 → p.1 ≤ l.length → p.2 ≤ 1000000000 → (p.2 ≠ 0 → 2 ≤ p.1 ∧ p.1 ≤ p.2) → ∃ K N : Nat, p = ((K : Int), (N : Int)) ∧ K ≤ l.length ∧ N ≤ 1000000000 ∧ (N ≠ 0 → 2 ≤ K ∧ K ≤ N) := by
    rintro ⟨a, b⟩ k1 k2 k3 k4 k5
    simp only at k1 k2 k3 k4 k5
    obtain ⟨K, rfl⟩ := Int.eq_ofNat_of_zero_le k1
    obtain ⟨N, rfl⟩ := Int.eq_ofNat_of_zero_le k2
    exact ⟨K, N, rfl, by omega, by omega, by omega⟩
  apply key <;> unfold smeas <;> (repeat' split) <;> simp only <;> omega
/-- the number of the error that next tells; 0: none -/
def snum (lim : Int) (l : List Int) : Int :=
  if (smeas l).2 ≤ lim then dnum l else if dnum (l.take (smeas l).1.toNat) = 1 then 1 else 2
def NextPost (lim : Int) (l : List Int) (w : World) (e : Ending) (w' : World) : Prop :=
  ∃ (q : Pkv) (n : Nat) (E : Value), e = .returned (.tuple #[q.val, .int .i64 n, E]) ∧
    ((snum lim l ≠ 0 ∧ Hid (∃ d, d ≤ 3 ∧ Er w' d E (snum lim l))) ∨ (snum lim l = 0 ∧ n = (meas l).2.1 ∧ E = .nilIface ∧ ∃ P r, dbody l = some (P, r) ∧ Hid (Mean w' w.heap.size q P))) ∧ Below w.heap.size w w'
set_option maxHeartbeats 2000000 in
theorem snext_in (S : Nat) (lim : Int) (v : Value) (l : List Int) (w : World) (h : Byt w v l) (hS : w.cell? ⟨S, 0, none⟩ = some (.int .i64 lim)) (hle : (smeas l).2 ≤ lim) : Calls Tryz.prog 134 #[.pointer (some ⟨S, 0, none⟩), v] w (NextPost lim l w) := by
  have hsn : snum lim l = dnum l := by unfold snum; rw [if_pos hle]
  have HPN := hide (pk_new w pkz)
  have HBN : Hid (Below w.heap.size w (w.alloc (.cells pkz.cells.toArray 30))) := (Below.refl _ _).alloc (Nat.le_refl _) _
  have HH := hide (h.below (unhide HBN))
  obtain ⟨K, N, hK, hK1, hK2, hK3⟩ := smeas_nat l h.range
  have HM := hide (smeas_any v l (w.alloc (.cells pkz.cells.toArray 30)) (unhide HH))
  rw [hK] at HM hle
  simp only at HM hle
  have hSl := cell_lt hS
  obtain ⟨ao, cap, rfl, hc1, hc2⟩ := h.form
  have HSN := hide hsn
  clear h hK hsn hK3
  go_enter Tryz.func134, Tryz.ntmps134
  go_wp2_with fail
  refine (unhide HM).mono ?_
  rintro e w1 ⟨rfl, hw1⟩
  have c0 : w1.cell? ⟨S, 0, none⟩ = some (.int .i64 lim) := by rw [hw1]; exact ((unhide HBN).cell hSl).trans hS
  have HP1 : Hid (Pk w1 w.heap.size pkz) := by rw [hw1]; exact unhide HPN
  have HB1 : Hid (Below w.heap.size w w1) := by rw [hw1]; exact unhide HBN
  have HH1 : Hid (Byt w1 (.slice ao l.length cap) l) := by rw [hw1]; exact unhide HH
  have hz1 : w1.heap.size = w.heap.size + 1 := by rw [hw1]; simp
  clear HM hw1 HPN HBN HH hS
  go_wp2_with fail
  refine (decode_any _ l w1 (unhide HH1)).mono ?_
  rintro e w2 ⟨q, n, E, rfl, hcase, hb2⟩
  have HP2 := hide ((unhide HP1).below hb2)
  have HB2 : Hid (Below w.heap.size w w2) := (unhide HB1).trans (hb2.mono (unhide HB1).size)
  have HC := hide hcase
  clear hb2 HP1 HB1 HH1 hcase c0
  dsimp only
  iterate 10 go_step
  refine wpList_store_mid rfl 30 _ _ rfl w.heap.size 0 q.cells.toArray rfl rfl ((unhide HP2).there _) packet_size (Pkv.ones' _) ?_
  simp only [Act.put]
  have HPS := hide ((unhide HP2).stored q)
  have HBS : Hid (Below w.heap.size w (w2.setCells w.heap.size 0 q.cells)) := setCells_below (unhide HB2) (Nat.le_refl _)
  have HES : Hid (NextPost lim l w (.returned (.tuple #[q.val, .int .i64 n, E])) (w2.setCells w.heap.size 0 q.cells)) := by
    refine ⟨q, n, E, rfl, ?_, unhide HBS⟩
    rw [unhide HSN]
    rcases unhide HC with ⟨k1, k2, k3, k4⟩ | ⟨k1, k2, k3, P, r, k4, k5⟩
    · obtain ⟨x, d, _, hd, hE⟩ := erp_cells (vs := q.cells) (unhide k4) (unhide HP2).dup
      exact .inl ⟨k1, d, hd, hE⟩
    · exact .inr ⟨k1, k2, k3, P, r, k4, ((unhide k5).cells (by omega)).base (by omega)⟩
  generalize w2.setCells w.heap.size 0 q.cells = wS at HPS HBS HES ⊢
  go_wp2
  refine bodyPost_ret (res_pk3 (B := w.heap.size) (q := q) rfl rfl (unhide HPS)) rfl ?_
  exact unhide HES
theorem spk_alloc (ρ : Operand → Value) (dst : Option Tmp) (ty : TypeId) (pos : String) (after : Array Edge) (w : World) :
    (execOp ρ ⟨dst, .alloc 30, ty, pos, after, none⟩).run Tryz.prog w = .ok (.value (.pointer (some ⟨w.heap.size, 0, none⟩))) (w.alloc (.cells pkz.cells.toArray 30)) := by
  kernel_rfl
theorem spk_store (a : Act) (dst : Option Tmp) (x y : Operand) (ty : TypeId) (pos : String) (after : Array Edge) (q : Pkv) (w : World) (hx : a.eval x = .pointer (some ⟨w.heap.size, 0, none⟩)) (hy : a.eval y = q.val) :
    (execOp a.eval ⟨dst, .store 30 x y, ty, pos, after, none⟩).run Tryz.prog (w.alloc (.cells pkz.cells.toArray 30)) = .ok .skip (w.alloc (.cells q.cells.toArray 30)) := by
  show Sem.run Tryz.prog (do Instr.storeAt 30 (a.eval x) (a.eval y); pure Next.skip) _ = _
  rw [hx, hy]
  simp only [Sem.run_bind]
  rw [show q.val = .agg q.cells.toArray from rfl, run_storeAt_new w 30 pkz.cells.toArray q.cells.toArray (by rw [packet_size]; rfl) rfl q.ones']
  rfl
theorem sis_use (m : Int) (E : Value) (w : World) (h : (m = 0 ∧ E = .nilIface) ∨ (m ≠ 0 ∧ ∃ d, d ≤ 3 ∧ Er w d E m)) : Calls Tryz.prog 81 #[E, .iface 84 (.int .i64 1)] w fun e w' => e = .returned (.bool (m == 1)) ∧ w' = w := by
  rcases h with ⟨rfl, rfl⟩ | ⟨_, d, hd, h⟩
  · exact is_nil 1 w
  · exact er_Is d hd E m 1 w h
set_option maxHeartbeats 2000000 in
theorem snext_out (S : Nat) (lim : Int) (v : Value) (l : List Int) (w : World) (h : Byt w v l) (hS : w.cell? ⟨S, 0, none⟩ = some (.int .i64 lim)) (hlim : 2 ≤ lim) (hle : ¬ (smeas l).2 ≤ lim) : Calls Tryz.prog 134 #[.pointer (some ⟨S, 0, none⟩), v] w (NextPost lim l w) := by
  have HPN := hide (pk_new w pkz)
  have HBN : Hid (Below w.heap.size w (w.alloc (.cells pkz.cells.toArray 30))) := (Below.refl _ _).alloc (Nat.le_refl _) _
  have HH := hide (h.below (unhide HBN))
  obtain ⟨K, N, hK, hK1, hK2, hK3⟩ := smeas_nat l h.range
  have hsn : snum lim l = if dnum (l.take K) = 1 then 1 else 2 := by unfold snum; rw [if_neg hle, hK, Int.toNat_natCast]
  have HM := hide (smeas_any v l (w.alloc (.cells pkz.cells.toArray 30)) (unhide HH))
  rw [hK] at HM hle
  simp only at HM hle
  have hSl := cell_lt hS
  have hK4 := (hK3 (by omega)).1
  obtain ⟨b, off, cap, rfl, hc1, hc2⟩ := h.form1 (by omega)
  unfold maxLen at hc2
  have HSN := hide hsn
  clear h hK hsn hK3
  go_enter Tryz.func134, Tryz.ntmps134
  go_wp2_with fail
  refine (unhide HM).mono ?_
  rintro e w1 ⟨rfl, hw1⟩
  have c0 : w1.cell? ⟨S, 0, none⟩ = some (.int .i64 lim) := by rw [hw1]; exact ((unhide HBN).cell hSl).trans hS
  have HP1 : Hid (Pk w1 w.heap.size pkz) := by rw [hw1]; exact unhide HPN
  have HB1 : Hid (Below w.heap.size w w1) := by rw [hw1]; exact unhide HBN
  have HH1 : Hid (Byt w1 (.slice (some ⟨b, off, none⟩) K cap) (l.take K)) := by rw [hw1]; exact (unhide HH).take K hK1
  have hz1 : w1.heap.size = w.heap.size + 1 := by rw [hw1]; simp
  clear HM hw1 HPN HBN HH hS
  generalize hn : l.length = n0 at hK1 hc1 ⊢
  clear hn
  go_wp2_with fail
  refine (decode_any _ (l.take K) w1 (unhide HH1)).mono ?_
  rintro e w2 ⟨q, n, E, rfl, hcase, hb2⟩
  have HP2 := hide ((unhide HP1).below hb2)
  have HB2 : Hid (Below w.heap.size w w2) := (unhide HB1).trans (hb2.mono (unhide HB1).size)
  have HC : Hid ((dnum (l.take K) = 0 ∧ E = .nilIface) ∨ (dnum (l.take K) ≠ 0 ∧ ∃ d, d ≤ 3 ∧ Er w2 d E (dnum (l.take K)))) := by
    rcases hcase with ⟨k1, k2, k3, k4⟩ | ⟨k1, k2, k3, k4⟩
    · obtain ⟨x, d, _, hd, hE⟩ := unhide k4
      exact .inr ⟨k1, d, hd, hE⟩
    · exact .inl ⟨k1, k3⟩
  generalize dnum (l.take K) = m at HC HSN
  clear hb2 HP1 HB1 HH1 hcase c0
  dsimp only
  iterate 13 go_step
  refine Go.Proofs.YtoocdfgjkeheaaaGreatDoor.wpList_value rfl (spk_alloc _ _ _ _ _ _) ?_
  simp only [Act.put, List.setIfInBounds_toArray, List.set_cons_zero, List.set_cons_succ]
  refine Go.Proofs.YtoocdfgjkeheaaaGreatDoor.wpList_skip rfl (spk_store _ _ _ _ _ _ _ q w2 rfl rfl) ?_
  simp only [Act.put]
  have hal : Below w2.heap.size w2 (w2.alloc (.cells q.cells.toArray 30)) := (Below.refl _ _).alloc (Nat.le_refl _) _
  have HP3 : Hid (Pk (w2.alloc (.cells q.cells.toArray 30)) w.heap.size pkz) := (unhide HP2).below hal
  have HB3 : Hid (Below w.heap.size w (w2.alloc (.cells q.cells.toArray 30))) := (unhide HB2).trans (hal.mono (unhide HB2).size)
  have HC3 : Hid ((m = 0 ∧ E = .nilIface) ∨ (m ≠ 0 ∧ ∃ d, d ≤ 3 ∧ Er (w2.alloc (.cells q.cells.toArray 30)) d E m)) := by
    rcases unhide HC with k | ⟨k1, d, k2, k3⟩
    · exact .inl k
    · exact .inr ⟨k1, d, k2, k3.below hal⟩
  generalize w2.alloc (.cells q.cells.toArray 30) = w3 at HP3 HB3 HC3 ⊢
  clear hal HP2 HB2 HC
  go_wp2_with fail
  refine (sis_use m E w3 (unhide HC3)).mono ?_
  rintro e w4 ⟨rfl, hw4⟩
  obtain rfl := hw4.symm
  clear hw4
  have HBS : Hid (Below w.heap.size w (w3.setCells w.heap.size 0 pkz.cells)) := setCells_below (unhide HB3) (Nat.le_refl _)
  have HPS := hide ((unhide HP3).stored pkz)
  by_cases hm : m = 1
  · subst hm
    have HES : Hid (NextPost lim l w (.returned (.tuple #[pkz.val, .int .i64 (0 : Nat), E])) (w3.setCells w.heap.size 0 pkz.cells)) := by
      refine ⟨pkz, 0, E, rfl, ?_, unhide HBS⟩
      rw [unhide HSN, if_pos rfl]
      rcases unhide HC3 with ⟨k1, _⟩ | ⟨k1, d, k2, k3⟩
      · exact absurd k1 (by decide)
      · exact .inl ⟨by decide, d, k2, er_cells (unhide HP3).dup k3⟩
    go_upto_region 6 with fail
    iterate 7 go_step
    refine wpList_store_mid rfl 30 _ _ rfl w.heap.size 0 pkz.cells.toArray rfl rfl ((unhide HP3).there _) packet_size (Pkv.ones' _) ?_
    simp only [Act.put]
    generalize w3.setCells w.heap.size 0 pkz.cells = wS at HPS HBS HES ⊢
    go_wp2
    refine bodyPost_ret (res_pk3 (B := w.heap.size) (q := pkz) rfl rfl (unhide HPS)) rfl ?_
    exact unhide HES
  · have hm1 : (m == 1) = false := beq_eq_false_iff_ne.2 hm
    have HES : Hid (NextPost lim l w (.returned (.tuple #[pkz.val, .int .i64 (0 : Nat), .iface 84 (.int .i64 2)])) (w3.setCells w.heap.size 0 pkz.cells)) := by
      refine ⟨pkz, 0, _, rfl, ?_, unhide HBS⟩
      rw [unhide HSN, if_neg hm]
      exact .inl ⟨by decide, 0, by omega, rfl⟩
    go_upto_region 7 with fail
    iterate 7 go_step
    refine wpList_store_mid rfl 30 _ _ rfl w.heap.size 0 pkz.cells.toArray rfl rfl ((unhide HP3).there _) packet_size (Pkv.ones' _) ?_
    simp only [Act.put]
    generalize w3.setCells w.heap.size 0 pkz.cells = wS at HPS HBS HES ⊢
    go_wp2
    refine bodyPost_ret (res_pk3 (B := w.heap.size) (q := pkz) rfl rfl (unhide HPS)) rfl ?_
    exact unhide HES
theorem snext_any (S : Nat) (lim : Int) (v : Value) (l : List Int) (w : World) (h : Byt w v l) (hS : w.cell? ⟨S, 0, none⟩ = some (.int .i64 lim)) (hlim : 2 ≤ lim) : Calls Tryz.prog 134 #[.pointer (some ⟨S, 0, none⟩), v] w (NextPost lim l w) := by
  by_cases hle : (smeas l).2 ≤ lim
  · exact snext_in S lim v l w h hS hle
  · exact snext_out S lim v l w h hS hlim hle
end Go.Proofs.YtoocdfgjkeheaaaGreatDoor.K
/- Proved here: packets in a row (Pks), and what stream's whole reads (SRun). Helpers. -/
namespace Go.Proofs.YtoocdfgjkeheaaaGreatDoor.K
open Go.RowKit
set_option maxRecDepth 100000

theorem owns_ty {w w' : World} {B : Nat} {e t : TypeId} {s : Nat} {v : Value} {n : Nat} {xs : List Value} {row : Option Nat} (h : w.ownsRow B e s v n xs) (hg : w.grownBy w' row) (ht : ∀ g, row = some g → ∃ cur fz, w.heap[g]? = some (.cells cur t fz)) (hne : e ≠ t) : w'.ownsRow B e s v n xs := by
  refine ⟨h.1, ?_⟩
  rcases h.2 with h1 | ⟨g, cap, cur, hv, hB, hgg, rest⟩
  · exact .inl h1
  · refine .inr ⟨g, cap, cur, hv, hB, ?_, rest⟩
    rw [hg.block g (Array.getElem?_eq_some_iff.1 hgg).1 (fun er => by
      obtain ⟨cur', fz, k⟩ := ht g er.symm
      rw [hgg] at k
      simp only [Option.some.injEq, Obj.cells.injEq] at k
      exact hne k.2.1)]
    exact hgg
theorem Mean.ty {w w' : World} {B : Nat} {p : Pkv} {P : Pa} {row : Option Nat} (h : Mean w B p P) (hg : w.grownBy w' row) (ht : ∀ g, row = some g → ∃ cur fz, w.heap[g]? = some (.cells cur 30 fz)) : Mean w' B p P :=
  ⟨h.sc, owns_ty h.props hg ht (by decide), by
    obtain ⟨ws, h1, h2, h3⟩ := h.wills
    exact ⟨ws, owns_ty h1 hg ht (by decide), h2, fun i a b ha hb => by
      obtain ⟨k1, k2, k3, k4, k5⟩ := h3 i a b ha hb
      exact ⟨k1, k2, k3, k4, owns_ty k5 hg ht (by decide)⟩⟩, owns_ty h.user hg ht (by decide), owns_ty h.pass hg ht (by decide), owns_ty h.subs hg ht (by decide), owns_ty h.filters hg ht (by decide), owns_ty h.codes hg ht (by decide)⟩
theorem Mean.below {w w' : World} {B : Nat} {p : Pkv} {P : Pa} (h : Mean w B p P) (hb : Below w.heap.size w w') : Mean w' B p P :=
  ⟨h.sc, owns_below h.props hb, by
    obtain ⟨ws, h1, h2, h3⟩ := h.wills
    exact ⟨ws, owns_below h1 hb, h2, fun i a b ha hb' => by
      obtain ⟨k1, k2, k3, k4, k5⟩ := h3 i a b ha hb'
      exact ⟨k1, k2, k3, k4, owns_below k5 hb⟩⟩, owns_below h.user hb, owns_below h.pass hb, owns_below h.subs hb, owns_below h.filters hb, owns_below h.codes hb⟩
/-- packets in a row of one's own -/
structure Pks (w : World) (B : Nat) (v : Value) (qs : List Pkv) (Ps : List Pa) : Prop where
  row : w.ownsRow B 30 19 v qs.length (qs.flatMap Pkv.cells)
  len : qs.length = Ps.length
  mean : ∀ (i : Nat) (q : Pkv) (P : Pa), qs[i]? = some q → Ps[i]? = some P → Mean w B q P
theorem Pks.nil (w : World) (B : Nat) : Pks w B (.slice none 0 0) [] [] := ⟨World.ownsRow_nil _ _ _ _, rfl, fun i q P h => by simp at h⟩
theorem Pks.below {w w' : World} {B : Nat} {v : Value} {qs : List Pkv} {Ps : List Pa} (h : Pks w B v qs Ps) (hb : Below w.heap.size w w') : Pks w' B v qs Ps :=
  ⟨owns_below h.row hb, h.len, fun i q P h1 h2 => (h.mean i q P h1 h2).below hb⟩
theorem Pks.blk {w : World} {B : Nat} {v : Value} {qs : List Pkv} {Ps : List Pa} (h : Pks w B v qs Ps) : ∀ g, v.ownBlock = some g → B ≤ g ∧ ∃ cur fz, w.heap[g]? = some (.cells cur 30 fz) := by
  intro g hg
  rcases h.row.2 with ⟨rfl, _⟩ | ⟨g', cap, cur, rfl, hB, hgg, _⟩
  · cases hg
  · cases hg
    exact ⟨hB, cur, _, hgg⟩
theorem Pks.app {w w' : World} {B : Nat} {v v' : Value} {qs : List Pkv} {Ps : List Pa} {q : Pkv} {P : Pa} (h : Pks w B v qs Ps) (hm : Mean w B q P) (hg : w.grownBy w' v.ownBlock) (ho : w'.ownsRow B 30 19 v' (qs.length + 1) (qs.flatMap Pkv.cells ++ q.cells)) : Pks w' B v' (qs ++ [q]) (Ps ++ [P]) := by
  have ht : ∀ g, v.ownBlock = some g → ∃ cur fz, w.heap[g]? = some (.cells cur 30 fz) := fun g e => (h.blk g e).2
  refine ⟨?_, by simp [h.len], fun i x X h1 h2 => ?_⟩
  · rw [List.length_append, List.flatMap_append]
    simpa using ho
  · by_cases hi : i < qs.length
    · rw [List.getElem?_append_left hi] at h1
      rw [List.getElem?_append_left (by rw [← h.len]; exact hi)] at h2
      exact (h.mean i x X h1 h2).ty hg ht
    · rw [List.getElem?_append_right (by omega)] at h1
      rw [List.getElem?_append_right (by rw [← h.len]; omega), ← h.len] at h2
      by_cases h0 : i - qs.length = 0
      · rw [h0] at h1 h2
        simp at h1 h2
        subst h1 h2
        exact hm.ty hg ht
      · rw [List.getElem?_eq_none (by simp; omega)] at h1
        cases h1
/-- the packets with which bytes begin, how many bytes they have, and the number of the error why there are no more -/
inductive SRun (lim : Int) : List Int → List Pa → Nat → Int → Prop
  | stop (l : List Int) : snum lim l ≠ 0 → SRun lim l [] 0 (snum lim l)
  | step (l : List Int) (P : Pa) (r : List Int) (Ps : List Pa) (n : Nat) (e : Int) : snum lim l = 0 → dbody l = some (P, r) → SRun lim (l.drop (meas l).2.1) Ps n e → SRun lim l (P :: Ps) ((meas l).2.1 + n) e
theorem snum_zero {lim : Int} {l : List Int} (h : snum lim l = 0) : dnum l = 0 := by
  unfold snum at h
  split at h
  · exact h
  · split at h <;> omega
theorem snum_meas {lim : Int} {l : List Int} (h : snum lim l = 0) : 1 ≤ (meas l).2.1 ∧ (meas l).2.1 ≤ l.length := by
  have k := snum_zero h
  have h2 : (meas l).2.2 = 0 := by
    unfold dnum at k
    split at k
    · omega
    · split at k
      · omega
      · split at k
        · omega
        · rename_i k2; simpa using k2
  unfold meas at h2 ⊢
  split
  · rename_i k1; rw [if_pos k1] at h2; exact absurd h2 k1
  · rename_i k1
    rw [if_neg k1] at h2
    split
    · rename_i k2; rw [if_pos k2] at h2; simp at h2
    · rename_i k2
      rw [if_neg k2] at h2
      split
      · rename_i k3; rw [if_pos k3] at h2; simp at h2
      · simp only; omega
end Go.Proofs.YtoocdfgjkeheaaaGreatDoor.K
/- Proved here: stream's whole. Helper contracts. -/
namespace Go.Proofs.YtoocdfgjkeheaaaGreatDoor.K
open Go.RowKit
set_option maxRecDepth 100000

theorem infoPk : (Tryz.prog.info? 30).map (fun i => (i.zero, i.size, i.bytes)) = some (some (.agg pkz.cells.toArray), 19, 288) := by kernel_rfl
theorem pk_slice (a : Act) (dst : Option Tmp) (x : Operand) (ty : TypeId) (pos : String) (after : Array Edge) (q : Pkv) (hx : a.eval x = q.val) (w : World) :
    (execOp a.eval ⟨dst, .buildSlice 61 1 #[(0, x)], ty, pos, after, none⟩).run Tryz.prog w = .ok (.value (.slice (some ⟨w.heap.size, 0, none⟩) 1 1)) (w.alloc (.cells q.cells.toArray 30)) := by
  unfold execOp
  simp only [List.map_toArray, List.map_cons, List.map_nil, hx]
  kernel_rfl
theorem pk_cells {w : World} {A : Nat} {q : Pkv} (h : Pk w A q) : ∀ j u, q.cells[j]? = some u → w.cell? ((⟨A, 0, none⟩ : Addr).add j) = some u := fun j u hu => by
  have k := h.range j u hu
  rw [Nat.zero_add] at k
  by_cases hj : j = 0
  · subst hj; simpa [Addr.add] using k
  · simpa [Addr.add, hj] using k
def WholePost (lim : Int) (L : List Int) (w : World) (e : Ending) (w' : World) : Prop :=
  ∃ (v : Value) (n : Nat) (E : Value) (qs : List Pkv) (Ps : List Pa) (m : Int), e = .returned (.tuple #[v, .int .i64 n, E]) ∧ n ≤ L.length ∧ Hid (SRun lim L Ps n m) ∧ m ≠ 0 ∧ Hid (Pks w' w.heap.size v qs Ps) ∧ Hid (∃ d, d ≤ 3 ∧ Er w' d E m) ∧ Below w.heap.size w w'
set_option maxHeartbeats 2000000 in
theorem swhole_own (S : Nat) (lim : Int) (b off cap : Nat) (L : List Int) (w : World) (h : Byt w (.slice (some ⟨b, off, none⟩) L.length cap) L) (hS : w.cell? ⟨S, 0, none⟩ = some (.int .i64 lim)) (hS1 : w.cell? ⟨S, 1, none⟩ = some (.slice (some ⟨b, off, none⟩) L.length cap)) (hlim : 2 ≤ lim) (hLN : L.length ≤ 1073741824) :
    Calls Tryz.prog 80 #[.pointer (some ⟨S, 0, none⟩)] w (WholePost lim L w) := by
  have hSl := cell_lt hS
  obtain ⟨i0, hi, hz0, hz1, hz2⟩ := info_parts infoPk
  obtain ⟨hcl, hcap⟩ : L.length ≤ cap ∧ cap ≤ maxLen := by
    obtain ⟨ao', cap', e, k1, k2⟩ := h.form
    simp only [Value.slice.injEq] at e
    obtain ⟨_, _, rfl⟩ := e
    exact ⟨k1, k2⟩
  unfold maxLen at hcap
  have HH := hide h
  have HS := hide hS
  have HS1 := hide hS1
  generalize hN : L.length = N at hcl HH HS1 hLN
  have HN := hide hN
  clear h hS hS1 hN
  go_enter Tryz.func80, Tryz.ntmps80
  go_wp2
  go_loopw [2, 3] (fun l0 n0 wr => ∃ (lv : Value) (qs : List Pkv) (Ps : List Pa) (k n : Nat), l0 = lv ∧ n0 = .int .i64 n ∧ n ≤ N ∧ k ≤ n ∧ Hid (qs.length = k) ∧ Hid (Pks wr w.heap.size lv qs Ps) ∧ Hid (∀ Ps' n' e', SRun lim (L.drop n) Ps' n' e' → SRun lim L (Ps ++ Ps') (n + n') e') ∧ Hid (Below w.heap.size w wr)) (fun _ n0 _ => N - (intOf n0).toNat)
  case atStart =>
    refine ⟨.slice none 0 0, [], [], 0, 0, rfl, rfl, Nat.zero_le _, Nat.le_refl _, rfl, Pks.nil _ _, fun Ps' n' e' h => ?_, Below.refl _ _⟩
    simpa using h
  case round =>
    obtain ⟨_, qs, Ps, k, n, rfl, rfl, hn, hk, HQ, HP, HR, HB⟩ := hrel
    have c1 : wr.cell? ⟨S, 1, none⟩ = some (.slice (some ⟨b, off, none⟩) N cap) := ((unhide HB).cell hSl).trans (unhide HS1)
    have HY := hide (((unhide HH).below (unhide HB)).drop' n hn)
    have HC0 : Hid (wr.cell? ⟨S, 0, none⟩ = some (.int .i64 lim)) := ((unhide HB).cell hSl).trans (unhide HS)
    have hsz := (unhide HB).size
    by_cases hcn : cap = n
    · obtain rfl : N = n := by omega
      subst hcn
      have HT : Hid (Byt wr (.slice (some ⟨b, off, none⟩) 0 0) (L.drop cap)) := by
        have k := unhide HY
        rw [if_pos rfl, Nat.sub_self] at k
        exact k
      clear HY
      go_wp2_with fail
      refine (snext_any S lim _ (L.drop cap) wr (unhide HT) (unhide HC0) hlim).mono ?_
      rintro e w2 ⟨q, z, E, rfl, hcase, hb2⟩
      have HC := hide hcase
      have HB2 : Hid (Below w.heap.size w w2) := (unhide HB).trans (hb2.mono hsz)
      have HP2 := hide ((unhide HP).below hb2)
      clear hb2 hcase HB HP c1 HT HC0
      dsimp only
      iterate 13 go_step
      refine Go.Proofs.YtoocdfgjkeheaaaGreatDoor.wpList_value rfl (spk_alloc _ _ _ _ _ _) ?_
      simp only [Act.put, List.setIfInBounds_toArray, List.set_cons_zero, List.set_cons_succ]
      refine Go.Proofs.YtoocdfgjkeheaaaGreatDoor.wpList_skip rfl (spk_store _ _ _ _ _ _ _ q w2 rfl rfl) ?_
      simp only [Act.put]
      have hal : Below w2.heap.size w2 (w2.alloc (.cells q.cells.toArray 30)) := (Below.refl _ _).alloc (Nat.le_refl _) _
      have HK3 := hide (pk_new w2 q)
      have HB3 : Hid (Below w.heap.size w (w2.alloc (.cells q.cells.toArray 30))) := (unhide HB2).trans (hal.mono (unhide HB2).size)
      have HP3 := hide ((unhide HP2).below hal)
      rcases unhide HC with ⟨hm, hE⟩ | ⟨hm, hz, rfl, P, r, hd, hM⟩
      · obtain ⟨d, hd, hE1⟩ := unhide hE
        have HE3 : Hid (∃ d, d ≤ 3 ∧ Er (w2.alloc (.cells q.cells.toArray 30)) d E (snum lim (L.drop cap))) := ⟨d, hd, hE1.below hal⟩
        obtain ⟨t, x, rfl⟩ := hE1.iface
        have HRR : Hid (SRun lim L Ps cap (snum lim (L.drop cap))) := by
          have k := (unhide HR) [] 0 _ (SRun.stop _ hm)
          show SRun _ _ _ _ _
          simpa using k
        have HMM := hide hm
        have HNL : Hid (cap ≤ L.length) := by show _ ≤ _; rw [unhide HN]; exact hn
        clear hE1 hE hal hd hm HC HP2 HB2 HK3 HR
        generalize w2.alloc (.cells q.cells.toArray 30) = w3 at HB3 HP3 HE3 ⊢
        go_wp2
        go_returns
        exact ⟨_, cap, _, qs, Ps, _, rfl, unhide HNL, HRR, unhide HMM, HP3, HE3, unhide HB3⟩
      · have hzz := snum_meas hm
        rw [List.length_drop, unhide HN] at hzz
        omega
    · have HT : Hid (Byt wr (.slice (some ⟨b, off + n, none⟩) (N - n) (cap - n)) (L.drop n)) := by
        have k := unhide HY
        rw [if_neg hcn] at k
        exact k
      clear HY
      go_wp2_with fail
      refine (snext_any S lim _ (L.drop n) wr (unhide HT) (unhide HC0) hlim).mono ?_
      rintro e w2 ⟨q, z, E, rfl, hcase, hb2⟩
      have HC := hide hcase
      have HB2 : Hid (Below w.heap.size w w2) := (unhide HB).trans (hb2.mono hsz)
      have HP2 := hide ((unhide HP).below hb2)
      clear hb2 hcase HB HP c1 HT HC0
      dsimp only
      iterate 13 go_step
      refine Go.Proofs.YtoocdfgjkeheaaaGreatDoor.wpList_value rfl (spk_alloc _ _ _ _ _ _) ?_
      simp only [Act.put, List.setIfInBounds_toArray, List.set_cons_zero, List.set_cons_succ]
      refine Go.Proofs.YtoocdfgjkeheaaaGreatDoor.wpList_skip rfl (spk_store _ _ _ _ _ _ _ q w2 rfl rfl) ?_
      simp only [Act.put]
      have hal : Below w2.heap.size w2 (w2.alloc (.cells q.cells.toArray 30)) := (Below.refl _ _).alloc (Nat.le_refl _) _
      have HK3 := hide (pk_new w2 q)
      have HB3 : Hid (Below w.heap.size w (w2.alloc (.cells q.cells.toArray 30))) := (unhide HB2).trans (hal.mono (unhide HB2).size)
      have HP3 := hide ((unhide HP2).below hal)
      rcases unhide HC with ⟨hm, hE⟩ | ⟨hm, hz, rfl, P, r, hd, hM⟩
      · obtain ⟨d, hd, hE1⟩ := unhide hE
        have HE3 : Hid (∃ d, d ≤ 3 ∧ Er (w2.alloc (.cells q.cells.toArray 30)) d E (snum lim (L.drop n))) := ⟨d, hd, hE1.below hal⟩
        obtain ⟨t, x, rfl⟩ := hE1.iface
        have HRR : Hid (SRun lim L Ps n (snum lim (L.drop n))) := by
          have k := (unhide HR) [] 0 _ (SRun.stop _ hm)
          show SRun _ _ _ _ _
          simpa using k
        have HMM := hide hm
        have HNL : Hid (n ≤ L.length) := by show _ ≤ _; rw [unhide HN]; exact hn
        clear hE1 hE hal hd hm HC HP2 HB2 HK3 HR
        generalize w2.alloc (.cells q.cells.toArray 30) = w3 at HB3 HP3 HE3 ⊢
        go_wp2
        go_returns
        exact ⟨_, n, _, qs, Ps, _, rfl, unhide HNL, HRR, unhide HMM, HP3, HE3, unhide HB3⟩
      · have hzz := snum_meas hm
        rw [← hz, List.length_drop, unhide HN] at hzz
        have HR2 : Hid (∀ Ps' n' e', SRun lim (L.drop (n + z)) Ps' n' e' → SRun lim L ((Ps ++ [P]) ++ Ps') (n + z + n') e') := fun Ps' n' e' h => by
          have k := (unhide HR) (P :: Ps') (z + n') e' (by rw [hz]; exact SRun.step _ P r Ps' n' e' hm hd (by rw [← hz, List.drop_drop]; exact h))
          rw [List.append_assoc, Nat.add_assoc]
          exact k
        have HM3 : Hid (Mean (w2.alloc (.cells q.cells.toArray 30)) w.heap.size q P) := ((unhide hM).base hsz).below hal
        have hw2 := (unhide HB2).size
        have hw3 : w2.heap.size < (w2.alloc (.cells q.cells.toArray 30)).heap.size := by simp
        clear hm hz hd hM hal HC HP2 HB2 HR
        generalize w2.alloc (.cells q.cells.toArray 30) = w3 at HB3 HP3 HM3 HK3 hw3 ⊢
        go_upto_region 4 with fail
        iterate 4 go_step
        refine wpList_load_mid rfl 30 _ rfl w2.heap.size 0 rfl q.cells _ (unhide HK3).range Tryz.underlying30 rfl packet_size ?_
        simp only [Act.put, List.setIfInBounds_toArray, List.set_cons_zero, List.set_cons_succ]
        refine Go.Proofs.YtoocdfgjkeheaaaGreatDoor.wpList_value rfl (pk_slice _ _ _ _ _ _ q rfl _) ?_
        simp only [Act.put, List.setIfInBounds_toArray, List.set_cons_zero, List.set_cons_succ]
        have hal : Below w3.heap.size w3 (w3.alloc (.cells q.cells.toArray 30)) := (Below.refl _ _).alloc (Nat.le_refl _) _
        have HK4 := hide (pk_new w3 q)
        have HB4 : Hid (Below w.heap.size w (w3.alloc (.cells q.cells.toArray 30))) := (unhide HB3).trans (hal.mono (unhide HB3).size)
        have HP4 := hide ((unhide HP3).below hal)
        have HM4 := hide ((unhide HM3).below hal)
        have hw4 : w3.heap.size < (w3.alloc (.cells q.cells.toArray 30)).heap.size := by simp
        clear hal HK3 HB3 HP3 HM3
        generalize hG : w3.alloc (.cells q.cells.toArray 30) = w4 at HB4 HP4 HM4 HK4 hw4 ⊢
        clear hG
        refine wpList_append_own _ rfl _ _ 61 rfl w.heap.size 30 i0 _ 19 288 Tryz.underlying61 hi hz0 hz1 hz2 rfl (by decide) u2 qs.length _ rfl (unhide HP4).row ⟨w3.heap.size, 0, none⟩ 1 1 q.cells rfl rfl (pk_cells (unhide HK4)) q.ones (by rw [unhide HQ]; unfold maxLen; omega) (by rw [unhide HQ]; omega) (by omega) ?_
        intro v5 w5 hown5 hgrow5 _
        have HP5 := hide ((unhide HP4).app (unhide HM4) hgrow5 hown5)
        have HB5 : Hid (Below w.heap.size w w5) := (unhide HB4).grown hgrow5 (by omega) (fun g hg => ((unhide HP4).blk g hg).1)
        have HQ5 : Hid ((qs ++ [q]).length = k + 1) := by show _ = _; rw [List.length_append, unhide HQ]; rfl
        clear hown5 hgrow5 HB4 HP4 HM4 HK4 HQ
        simp only [Act.put, List.setIfInBounds_toArray, List.set_cons_zero, List.set_cons_succ]
        go_wp2
        go_roundw
        case rel => exact ⟨_, qs ++ [q], Ps ++ [P], k + 1, n + z, rfl, by go_num, by omega, by omega, HQ5, HP5, HR2, HB5⟩
        case measure => simp [intOf]; omega
theorem snum_nil (lim : Int) (hlim : 2 ≤ lim) : snum lim [] = 3 := by
  unfold snum
  rw [show smeas [] = (0, 0) from rfl, if_pos (by omega)]
  rfl
set_option maxHeartbeats 2000000 in
theorem swhole_nil (S : Nat) (lim : Int) (w : World) (hS : w.cell? ⟨S, 0, none⟩ = some (.int .i64 lim)) (hS1 : w.cell? ⟨S, 1, none⟩ = some (.slice none 0 0)) (hlim : 2 ≤ lim) :
    Calls Tryz.prog 80 #[.pointer (some ⟨S, 0, none⟩)] w (WholePost lim [] w) := by
  have HS := hide hS
  have HY : Hid (Byt w (.slice none 0 0) []) := ⟨none, 0, rfl, by simp, fun j => by simp, .inl rfl⟩
  obtain ⟨L, hL⟩ : ∃ L : List Int, L = [] := ⟨_, rfl⟩
  rw [← hL] at HY ⊢
  have HSN : Hid (snum lim L = 3) := by rw [hL]; exact snum_nil lim hlim
  clear hS hL
  go_enter Tryz.func80, Tryz.ntmps80
  go_wp2
  refine wp_loop_rounds 1 ?_
  rw [rounds_succ]
  go_wp2_with fail
  refine (snext_any S lim _ L w (unhide HY) (unhide HS) hlim).mono ?_
  rintro e w2 ⟨q, z, E, rfl, hcase, hb2⟩
  have HC := hide hcase
  clear hcase
  dsimp only
  iterate 13 go_step
  refine Go.Proofs.YtoocdfgjkeheaaaGreatDoor.wpList_value rfl (spk_alloc _ _ _ _ _ _) ?_
  simp only [Act.put, List.setIfInBounds_toArray, List.set_cons_zero, List.set_cons_succ]
  refine Go.Proofs.YtoocdfgjkeheaaaGreatDoor.wpList_skip rfl (spk_store _ _ _ _ _ _ _ q w2 rfl rfl) ?_
  simp only [Act.put]
  have hal : Below w2.heap.size w2 (w2.alloc (.cells q.cells.toArray 30)) := (Below.refl _ _).alloc (Nat.le_refl _) _
  have HB3 : Hid (Below w.heap.size w (w2.alloc (.cells q.cells.toArray 30))) := hb2.trans (hal.mono hb2.size)
  rcases unhide HC with ⟨hm, hE⟩ | ⟨hm, _⟩
  · obtain ⟨d, hd, hE1⟩ := unhide hE
    have HE3 : Hid (∃ d, d ≤ 3 ∧ Er (w2.alloc (.cells q.cells.toArray 30)) d E (snum lim L)) := ⟨d, hd, hE1.below hal⟩
    obtain ⟨t, x, rfl⟩ := hE1.iface
    have HRR : Hid (SRun lim L [] 0 (snum lim L)) := SRun.stop _ hm
    have HMM := hide hm
    clear hE1 hE hal hd hm HC hb2
    generalize w2.alloc (.cells q.cells.toArray 30) = w3 at HB3 HE3 ⊢
    go_wp2
    go_returns
    exact ⟨_, 0, _, [], [], _, rfl, Nat.zero_le _, HRR, unhide HMM, Pks.nil _ _, HE3, unhide HB3⟩
  · rw [unhide HSN] at hm
    exact absurd hm (by decide)
end Go.Proofs.YtoocdfgjkeheaaaGreatDoor.K
/- Proved here: append of any bytes to bytes of one's own, which tells where the new bytes lie. Helpers. -/
namespace Go.Proofs.YtoocdfgjkeheaaaGreatDoor.K
open Go.RowKit

theorem run_append_byt_at (w : World) (base : Nat) (ty : TypeId) (v : Value) (n : Nat) (xs : List Int) (hown : w.ownsRow base 5 1 v n (xs.map (Value.int .u8))) (vx : Value) (ys : List Int) (hy : Byt w vx ys)
    (hbytes : n + ys.length ≤ 140737488355328) (hbase : base ≤ w.heap.size) :
    ∃ v' w', (Builtin.append_ #[31, 31] ty #[v, vx]).run Tryz.prog w = .ok v' w' ∧ w'.ownsRow base 5 1 v' (n + ys.length) ((xs ++ ys).map (Value.int .u8)) ∧ w.grownBy w' v.ownBlock ∧ (v'.ownBlock = v.ownBlock ∨ v'.ownBlock = some w.heap.size) := by
  obtain ⟨i0, hi, hz0, hz1, hz2⟩ := info_parts Tryz.infoU8
  obtain ⟨ao, cap, rfl, hlen, hr, hcase⟩ := hy
  have key : ∀ (a : Addr), (∀ j, j < ys.length → w.cell? (a.add j) = some (.int .u8 (ys.getD j 0))) → ∃ v' w', (Builtin.append_ #[31, 31] ty #[v, .slice (some a) ys.length cap]).run Tryz.prog w = .ok v' w' ∧ w'.ownsRow base 5 1 v' (n + ys.length) ((xs ++ ys).map (Value.int .u8)) ∧ w.grownBy w' v.ownBlock ∧ (v'.ownBlock = v.ownBlock ∨ v'.ownBlock = some w.heap.size) := by
    intro a ha
    obtain ⟨v', w', h1, h2, h3, _, h4⟩ := run_append_own_at (P := Tryz.prog) w base 31 ty 5 i0 (.int .u8 0) 1 1 Tryz.underlying31 hi hz0 hz1 hz2 rfl (by decide) v n _ hown a ys.length cap (ys.map (Value.int .u8)) (by simp)
      (fun j u hj => by
        rw [List.getElem?_map] at hj
        by_cases hjl : j < ys.length
        · rw [ha j hjl]
          rw [List.getElem?_eq_getElem hjl] at hj
          rw [List.getD_eq_getElem?_getD, List.getElem?_eq_getElem hjl]
          exact hj
        · rw [List.getElem?_eq_none (by omega)] at hj; cases hj)
      (fun u hu => by obtain ⟨_, _, rfl⟩ := List.mem_map.1 hu; rfl) (by unfold maxLen; omega) (by omega) hbase
    exact ⟨v', w', h1, by rw [List.map_append]; exact h2, h3, h4⟩
  rcases hcase with rfl | ⟨b, off, rfl, hc⟩
  · cases ao with
    | none =>
      refine ⟨v, w, ?_, ?_, ⟨rfl, rfl, rfl, Nat.le_refl _, fun _ _ _ => rfl⟩, .inl rfl⟩
      · rcases hown.2 with ⟨rfl, rfl⟩ | ⟨g, cap', cur, rfl, _, _, hnc, _⟩
        · simp [Builtin.append_, run_underlying Tryz.underlying31, sizeOf, typeInfo, hi, Builtin.lenOf, Builtin.firstCells]
        · simp [Builtin.append_, run_underlying Tryz.underlying31, sizeOf, typeInfo, hi, Builtin.lenOf, Builtin.firstCells, hnc, storeCells]
      · simpa using hown
    | some a => exact key a (fun j hj => by simp at hj)
  · exact key ⟨b, off, none⟩ (fun j hj => by rw [addr_add]; exact hc j hj)

theorem wpList_append_byt_at (w : World) {ops : Array Oper} {rest : List Oper} {o : Oper} {a : Act} {Q : Exit → Act → World → Prop} (hgd : o.guard = none) (s x : Operand)
    (ho : o.op = .call { callee := .builtin .append, args := #[s, x], argTypes := #[31, 31] })
    (base : Nat) (v : Value) (n : Nat) (xs : List Int) (hs : a.eval s = v) (hown : w.ownsRow base 5 1 v n (xs.map (Value.int .u8))) (vx : Value) (ys : List Int) (hx : a.eval x = vx) (hy : Byt w vx ys)
    (hbytes : n + ys.length ≤ 140737488355328) (hbase : base ≤ w.heap.size)
    (h : ∀ v' w', w'.ownsRow base 5 1 v' (n + ys.length) ((xs ++ ys).map (Value.int .u8)) → w.grownBy w' v.ownBlock → (v'.ownBlock = v.ownBlock ∨ v'.ownBlock = some w.heap.size) → wpList Tryz.prog ops Q rest (a.put o.dst v') w') : wpList Tryz.prog ops Q (o :: rest) a w := by
  refine wpList_plain hgd fun K hK => ?_
  obtain ⟨v', w', hr, h2, h3, h4⟩ := run_append_byt_at w base o.type v n xs hown vx ys hy hbytes hbase
  unfold Oper.wp execOp
  simp only [ho, resolve, invoke, builtin, Sem.run_bind, Sem.run_pure, Result.andThen_ok, List.map_toArray, List.map_cons, List.map_nil, hs, hx, hr]
  exact hK _ _ (h v' w' h2 h3 h4)
end Go.Proofs.YtoocdfgjkeheaaaGreatDoor.K
/- Proved here: stream's Feed. Helper contracts. -/
namespace Go.Proofs.YtoocdfgjkeheaaaGreatDoor.K
open Go.RowKit
set_option maxRecDepth 100000

theorem swhole_any (S : Nat) (lim : Int) (hv : Value) (L : List Int) (w : World) (B : Nat) (hr : w.ownsRow B 5 1 hv L.length (L.map (Value.int .u8))) (rng : ∀ j, 0 ≤ L.getD j 0 ∧ L.getD j 0 ≤ 255) (hS : w.cell? ⟨S, 0, none⟩ = some (.int .i64 lim)) (hS1 : w.cell? ⟨S, 1, none⟩ = some hv) (hlim : 2 ≤ lim) (hLN : L.length ≤ 1073741824) :
    Calls Tryz.prog 80 #[.pointer (some ⟨S, 0, none⟩)] w (WholePost lim L w) := by
  have hy := byt_of_owns hr rng
  rcases hr.2 with ⟨rfl, h0⟩ | ⟨g, cap, cur, rfl, _⟩
  · obtain rfl : L = [] := List.length_eq_zero_iff.1 h0
    exact swhole_nil S lim w hS hS1 hlim
  · exact swhole_own S lim g 0 cap L w hy hS hS1 hlim hLN
/-- a stream in memory: its limit, its error's number (0: none), the bytes that it holds -/
structure Str (w : World) (S : Nat) (lim f : Int) (hv : Value) (L : List Int) : Prop where
  c0 : w.cell? ⟨S, 0, none⟩ = some (.int .i64 lim)
  c1 : w.cell? ⟨S, 1, none⟩ = some hv
  c2 : w.cell? ⟨S, 2, none⟩ = some (.int .i64 f)
  f1 : w.frozen? ⟨S, 1, none⟩ = false
  f2 : w.frozen? ⟨S, 2, none⟩ = false
  row : w.ownsRow (S + 1) 5 1 hv L.length (L.map (Value.int .u8))
  rng : ∀ j, 0 ≤ L.getD j 0 ∧ L.getD j 0 ≤ 255
theorem Str.below {w w' : World} {S : Nat} {lim f : Int} {hv : Value} {L : List Int} (h : Str w S lim f hv L) (hb : Below w.heap.size w w') : Str w' S lim f hv L :=
  have hS : S < w.heap.size := cell_lt h.c0
  ⟨(hb.cell hS).trans h.c0, (hb.cell hS).trans h.c1, (hb.cell hS).trans h.c2, (hb.frozen hS).trans h.f1, (hb.frozen hS).trans h.f2, owns_below h.row hb, h.rng⟩
/-- nothing that was there has turned but the block S and a row -/
structure FB (S : Nat) (row : Option Nat) (w w' : World) : Prop where
  os : w'.os = w.os
  tape : w'.tape = w.tape
  output : w'.output = w.output
  size : w.heap.size ≤ w'.heap.size
  block : ∀ k, k < w.heap.size → k ≠ S → some k ≠ row → w'.heap[k]? = w.heap[k]?
theorem FB.refl (S : Nat) (row : Option Nat) (w : World) : FB S row w w := ⟨rfl, rfl, rfl, Nat.le_refl _, fun _ _ _ _ => rfl⟩
theorem FB.trans {S : Nat} {row row' : Option Nat} {a b c : World} (h : FB S row a b) (k : FB S row' b c) (hr : ∀ g, row' = some g → row = some g ∨ a.heap.size ≤ g) : FB S row a c :=
  ⟨k.os.trans h.os, k.tape.trans h.tape, k.output.trans h.output, Nat.le_trans h.size k.size, fun i hi hS hrow => (k.block i (Nat.lt_of_lt_of_le hi h.size) hS (fun e => by
    rcases hr i e.symm with e' | e'
    · exact hrow e'.symm
    · omega)).trans (h.block i hi hS hrow)⟩
theorem FB.of_below {S : Nat} {row : Option Nat} {a b : World} (h : Below a.heap.size a b) : FB S row a b := ⟨h.os, h.tape, h.output, h.size, fun k hk _ _ => h.block k hk⟩
theorem FB.of_grown {S : Nat} {row : Option Nat} {a b : World} (h : a.grownBy b row) : FB S row a b := ⟨h.os, h.tape, h.output, h.size, fun k hk _ hr => h.block k hk hr⟩
theorem FB.of_bx {S : Nat} {row : Option Nat} {may : Nat → Prop} {a b : World} (h : BX S may a b) : FB S row a b := ⟨h.os, h.tape, h.output, h.size, fun k hk hS _ => h.block k hk hS⟩
theorem FB.laid {S : Nat} {row : Option Nat} {a b : World} (h : FB S row a b) (hg : Laid a) (hS : 0 ≠ S) (hr : ∀ g, row = some g → S + 1 ≤ g) : Laid b := by
  have k : b.heap[0]? = a.heap[0]? := h.block 0 hg.pos hS (fun e => by have := hr 0 e.symm; omega)
  unfold Laid at *
  exact (World.cell?_of_block (a := ⟨0, 0, none⟩) k).trans hg
theorem Str.pos {w : World} {S : Nat} {lim f : Int} {hv : Value} {L : List Int} (h : Str w S lim f hv L) (hg : Laid w) : 0 ≠ S := by
  rintro rfl
  have k := h.c0
  unfold Laid at hg
  rw [hg] at k
  cases k
theorem owns_blk {w : World} {B : Nat} {e : TypeId} {s : Nat} {v : Value} {n : Nat} {xs : List Value} (h : w.ownsRow B e s v n xs) : ∀ g, v.ownBlock = some g → B ≤ g := by
  intro g hg
  rcases h.2 with ⟨rfl, _⟩ | ⟨g', cap, cur, rfl, hB, _⟩
  · cases hg
  · cases hg
    exact hB
theorem Str.put {w w1 : World} {S : Nat} {lim f : Int} {hv v1 : Value} {L M : List Int} {row : Option Nat} (h : Str w S lim f hv L) (hg : w.grownBy w1 row) (hr : ∀ g, row = some g → S + 1 ≤ g) (ho : w1.ownsRow (S + 1) 5 1 v1 M.length (M.map (Value.int .u8))) (rng : ∀ j, 0 ≤ M.getD j 0 ∧ M.getD j 0 ≤ 255) : Str (w1.setCell ⟨S, 1, none⟩ v1) S lim f v1 M := by
  have hS : S < w.heap.size := cell_lt h.c0
  have hb : w1.heap[S]? = w.heap[S]? := hg.block S hS (fun e => by have := hr S e.symm; omega)
  have hc : ∀ j, w1.cell? ⟨S, j, none⟩ = w.cell? ⟨S, j, none⟩ := fun j => World.cell?_of_block hb
  have hf : ∀ j, w1.frozen? ⟨S, j, none⟩ = w.frozen? ⟨S, j, none⟩ := fun j => World.frozen?_of_block hb
  exact ⟨(World.cell?_setCell_other _ _ _ _ (fun e => by simp at e)).trans ((hc 0).trans h.c0), World.cell?_setCell_same _ _ _ ((hc 1).trans h.c1), (World.cell?_setCell_other _ _ _ _ (fun e => by simp at e)).trans ((hc 2).trans h.c2), by rw [World.frozen?_setCell]; exact (hf 1).trans h.f1, by rw [World.frozen?_setCell]; exact (hf 2).trans h.f2, owns_out ho (Nat.lt_succ_self _), rng⟩
theorem FB.put {S : Nat} {row : Option Nat} {a b : World} (h : FB S row a b) (v : Value) : FB S row a (b.setCell ⟨S, 1, none⟩ v) :=
  h.trans (row' := none) (FB.of_bx ((BX.refl S isAny b).set 1 v trivial)) (fun g e => by cases e)
theorem drop_rng {M : List Int} (h : ∀ j, 0 ≤ M.getD j 0 ∧ M.getD j 0 ≤ 255) (n : Nat) : ∀ j, 0 ≤ (M.drop n).getD j 0 ∧ (M.drop n).getD j 0 ≤ 255 := fun j => by
  have k := h (n + j)
  rw [List.getD_eq_getElem?_getD, List.getElem?_drop, ← List.getD_eq_getElem?_getD]
  exact k
/-- what a piece of bytes makes of a stream that has told no error -/
def FedTo (S : Nat) (lim : Int) (hv : Value) (M : List Int) (w : World) (e : Ending) (w' : World) : Prop :=
  ∃ (v E : Value) (qs : List Pkv) (Ps : List Pa) (n : Nat) (m : Int) (hv' : Value), e = .returned (.tuple #[v, E]) ∧ n ≤ M.length ∧ SRun lim M Ps n m ∧ m ≠ 0 ∧ Pks w' w.heap.size v qs Ps ∧
    ((m = 3 ∧ E = .nilIface ∧ Str w' S lim 0 hv' (M.drop n)) ∨ (m ≠ 3 ∧ (∃ x, E = .iface 149 x) ∧ Er w' 1 E m ∧ Str w' S lim m hv' [])) ∧
    (hv'.ownBlock = hv.ownBlock ∨ ∀ g, hv'.ownBlock = some g → w.heap.size ≤ g) ∧ FB S hv.ownBlock w w'
theorem sfeed_bad (S : Nat) (lim f : Int) (hv : Value) (L : List Int) (vb : Value) (ys : List Int) (w : World) (h : Str w S lim f hv L) (hy : Byt w vb ys) (hf : f ≠ 0) : Calls Tryz.prog 39 #[.pointer (some ⟨S, 0, none⟩), vb] w fun e w' => ∃ x, e = .returned (.tuple #[.slice none 0 0, .iface 149 x]) ∧ Hid (Er w' 1 (.iface 149 x) f) ∧ Below w.heap.size w w' := by
  have c2 := h.c2
  have hf1 : (f == 0) = false := beq_eq_false_iff_ne.2 hf
  obtain ⟨ao, cap, rfl, _⟩ := hy.form
  clear h hy
  go_enter Tryz.func39, Tryz.ntmps39
  go_wp2_with fail
  refine (sfault_use f _).mono ?_
  rintro e w1 ⟨x, rfl, hE, hb⟩
  go_wp2
  go_returns
  exact ⟨_, rfl, hE, hb⟩
set_option maxHeartbeats 2000000 in
theorem sfeed_ok (S : Nat) (lim : Int) (hv : Value) (L : List Int) (vb : Value) (ys : List Int) (w : World) (hg : Laid w) (h : Str w S lim 0 hv L) (hy : Byt w vb ys) (hlim : 2 ≤ lim) (hLN : (L ++ ys).length ≤ 1073741824) : Calls Tryz.prog 39 #[.pointer (some ⟨S, 0, none⟩), vb] w (FedTo S lim hv (L ++ ys) w) := by
  have hS : S < w.heap.size := cell_lt h.c0
  have hS0 := h.pos hg
  have hrow := owns_blk h.row
  have c1 := h.c1
  have c2 := h.c2
  have hrng : ∀ j, 0 ≤ (L ++ ys).getD j 0 ∧ (L ++ ys).getD j 0 ≤ 255 := by
    intro j
    have k1 := h.rng j
    have k2 := hy.range (j - L.length)
    by_cases hj : j < L.length
    · rw [List.getD_eq_getElem?_getD, List.getElem?_append_left hj, ← List.getD_eq_getElem?_getD]; exact k1
    · rw [List.getD_eq_getElem?_getD, List.getElem?_append_right (by omega), ← List.getD_eq_getElem?_getD]; exact k2
  have HH := hide h
  have HY := hide hy
  have HG := hide hg
  have HROW := hide hrow
  have HRNG := hide hrng
  have hlen : L.length + ys.length ≤ 1073741824 := by rw [← List.length_append]; exact hLN
  obtain ⟨ao, cap, rfl, _⟩ := hy.form
  clear h hy hg hrow hrng
  go_enter Tryz.func39, Tryz.ntmps39
  go_wp2_with (first
    | (at_builtin; refine wpList_append_byt_at _ rfl _ _ rfl (S + 1) hv L.length L rfl (unhide HH).row (.slice ao ys.length cap) ys rfl (unhide HY) (by omega) (by omega) ?_)
    | go_in)
  intro v1 w1 hown1 hgrow1 hv1
  have k1 : w1.cell? ⟨S, 1, none⟩ = some hv := (World.cell?_of_block (hgrow1.block S hS (fun e => by have := (unhide HROW) S e.symm; omega))).trans c1
  have fz1 : w1.frozen? ⟨S, 1, none⟩ = false := (World.frozen?_of_block (hgrow1.block S hS (fun e => by have := (unhide HROW) S e.symm; omega))).trans (unhide HH).f1
  have HST : Hid (Str (w1.setCell ⟨S, 1, none⟩ v1) S lim 0 v1 (L ++ ys)) := (unhide HH).put hgrow1 (unhide HROW) (by rw [List.length_append, List.map_append]; exact hown1) (unhide HRNG)
  have HFB : Hid (FB S hv.ownBlock w (w1.setCell ⟨S, 1, none⟩ v1)) := (FB.of_grown hgrow1).put v1
  have HV1 : Hid (v1.ownBlock = hv.ownBlock ∨ ∀ g, v1.ownBlock = some g → w.heap.size ≤ g) := by
    rcases hv1 with e | e
    · exact .inl e
    · exact .inr (fun g k => by rw [e] at k; cases k; exact Nat.le_refl _)
  obtain ⟨a1, n1, p1, rfl⟩ : ∃ a1 n1 p1, v1 = .slice a1 n1 p1 := by
    rcases hown1.2 with ⟨rfl, _⟩ | ⟨g, cap, cur, rfl, _⟩
    · exact ⟨_, _, _, rfl⟩
    · exact ⟨_, _, _, rfl⟩
  clear hown1 hgrow1 hv1
  generalize hM : L ++ ys = M at HST HRNG hLN ⊢
  have HMM := hide hM
  clear hM hlen HH HY
  go_wp2_with fail
  have hS2 : S < (w1.setCell ⟨S, 1, none⟩ (.slice a1 n1 p1)).heap.size := cell_lt (unhide HST).c0
  generalize w1.setCell ⟨S, 1, none⟩ (.slice a1 n1 p1) = w2 at HST HFB hS2 ⊢
  refine (swhole_any S lim _ M w2 (S + 1) (unhide HST).row (unhide HRNG) (unhide HST).c0 (unhide HST).c1 hlim hLN).mono ?_
  rintro e w3 ⟨v, n, E, qs, Ps, m, rfl, hn, HSR, hm0, HP3, HE3, hb3⟩
  have HST3 : Hid (Str w3 S lim 0 (.slice a1 n1 p1) M) := (unhide HST).below hb3
  have HFB3 : Hid (FB S hv.ownBlock w w3) := (unhide HFB).trans (row' := none) (FB.of_below hb3) (fun g e => by cases e)
  have HPK : Hid (Pks w3 w.heap.size v qs Ps) := ⟨owns_mono (unhide HP3).row (unhide HFB).size, (unhide HP3).len, fun i q P h1 h2 => ((unhide HP3).mean i q P h1 h2).base (unhide HFB).size⟩
  clear hb3 HST HFB HP3 k1 c1 c2 fz1
  obtain ⟨d, hd, hE⟩ := unhide HE3
  obtain ⟨t, x, rfl⟩ := hE.iface
  have HE := hide hE
  clear hE HE3
  go_wp2_with fail
  refine (er_Is d hd _ m 3 w3 (unhide HE)).mono ?_
  rintro e w4 ⟨rfl, hw4⟩
  obtain rfl := hw4.symm
  clear hw4
  by_cases hm : m = 3
  · subst hm
    by_cases hn0 : n = 0
    · subst hn0
      go_wp2
      go_returns
      show FedTo S lim hv (L ++ ys) w _ _
      rw [unhide HMM]
      exact ⟨_, _, qs, Ps, 0, 3, _, rfl, hn, unhide HSR, hm0, unhide HPK, .inl ⟨rfl, rfl, unhide HST3⟩, unhide HV1, unhide HFB3⟩
    · have hS3 : S < w3.heap.size := cell_lt (unhide HST3).c0
      have hS3' : S + 1 ≤ w3.heap.size := hS3
      obtain ⟨g, rfl, rfl⟩ : ∃ g, a1 = some ⟨g, 0, none⟩ ∧ n1 = M.length := by
        rcases (unhide HST3).row.2 with ⟨e, h0⟩ | ⟨g, cap, cur, e, _⟩
        · omega
        · cases e
          exact ⟨g, rfl, rfl⟩
      obtain ⟨hp1, hp2⟩ : M.length ≤ p1 ∧ p1 ≤ maxLen := by
        obtain ⟨_, _, e, k1, k2⟩ := (byt_of_owns (unhide HST3).row (unhide HRNG)).form
        cases e
        exact ⟨k1, k2⟩
      unfold maxLen at hp2
      have HT0 := hide ((byt_of_owns (unhide HST3).row (unhide HRNG)).drop' n hn)
      have c1 := (unhide HST3).c1
      generalize hN : M.length = N at *
      by_cases hpn : p1 = n
      · obtain rfl : N = p1 := by omega
        subst hpn
        have HT : Hid (Byt w3 (.slice (some ⟨g, 0, none⟩) 0 0) (M.drop N)) := by
          have k := unhide HT0
          rw [if_pos rfl, Nat.sub_self] at k
          exact k
        clear HT0
        go_wp2_with (first
          | (at_builtin; refine wpList_append_byt_at _ rfl _ _ rfl (S + 1) (.slice none 0 0) 0 [] rfl (World.ownsRow_nil _ _ _ _) (.slice (some ⟨g, 0, none⟩) 0 0) (M.drop N) rfl (unhide HT) (by rw [List.length_drop]; omega) hS3' ?_)
          | go_in)
        intro v5 w5 hown5 hgrow5 hv5
        have HG5 := hide hgrow5
        have k1 : w5.cell? ⟨S, 1, none⟩ = some (.slice (some ⟨g, 0, none⟩) N N) := (World.cell?_of_block (hgrow5.block S hS3 (fun e => by cases e))).trans (unhide HST3).c1
        have fz1 : w5.frozen? ⟨S, 1, none⟩ = false := (World.frozen?_of_block (hgrow5.block S hS3 (fun e => by cases e))).trans (unhide HST3).f1
        have HST5 : Hid (Str (w5.setCell ⟨S, 1, none⟩ v5) S lim 0 v5 (M.drop N)) := (unhide HST3).put hgrow5 (fun g e => by cases e) (by first | (rw [List.length_drop, hN, List.map_drop]; exact hown5) | simpa [List.map_drop, hN] using hown5) (drop_rng (unhide HRNG) N)
        have HFB5 : Hid (FB S hv.ownBlock w (w5.setCell ⟨S, 1, none⟩ v5)) := ((unhide HFB3).trans (FB.of_grown hgrow5) (fun g e => by cases e)).put v5
        have HV5 : Hid (v5.ownBlock = hv.ownBlock ∨ ∀ g, v5.ownBlock = some g → w.heap.size ≤ g) := by
          rcases hv5 with e | e
          · exact .inr (fun g k => by rw [e] at k; cases k)
          · exact .inr (fun g k => by rw [e] at k; cases k; exact (unhide HFB3).size)
        have HPK5 : Hid (Pks (w5.setCell ⟨S, 1, none⟩ v5) w.heap.size v qs Ps) := by
          have hb : Below w3.heap.size w3 w5 := ⟨hgrow5.os, hgrow5.tape, hgrow5.output, hgrow5.size, fun k hk => hgrow5.block k hk (fun e => by cases e)⟩
          have kp := (unhide HPK).below hb
          have hx := (BX.refl S isAny w5).set 1 v5 trivial
          exact ⟨owns_bx kp.row hx hS, kp.len, fun i q P h1 h2 => (kp.mean i q P h1 h2).bx hx hS⟩
        obtain ⟨a5, n5, p5, rfl⟩ : ∃ a1 n1 p1, v5 = .slice a1 n1 p1 := by
          rcases hown5.2 with ⟨rfl, _⟩ | ⟨g, cap, cur, rfl, _⟩
          · exact ⟨_, _, _, rfl⟩
          · exact ⟨_, _, _, rfl⟩
        clear hown5 hgrow5 hv5 HG5 HFB3 HPK HE
        go_wp2
        go_returns
        show FedTo S lim hv (L ++ ys) w _ _
        rw [unhide HMM]
        exact ⟨_, _, qs, Ps, N, 3, _, rfl, by rw [hN]; exact hn, unhide HSR, hm0, unhide HPK5, .inl ⟨rfl, rfl, unhide HST5⟩, unhide HV5, unhide HFB5⟩
      · have HT : Hid (Byt w3 (.slice (some ⟨g, 0 + n, none⟩) (N - n) (p1 - n)) (M.drop n)) := by
          have k := unhide HT0
          rw [if_neg hpn] at k
          exact k
        rw [Nat.zero_add] at HT
        clear HT0
        go_wp2_with (first
          | (at_builtin; refine wpList_append_byt_at _ rfl _ _ rfl (S + 1) (.slice none 0 0) 0 [] rfl (World.ownsRow_nil _ _ _ _) (.slice (some ⟨g, n, none⟩) (N - n) (p1 - n)) (M.drop n) rfl (unhide HT) (by rw [List.length_drop]; omega) hS3' ?_)
          | go_in)
        intro v5 w5 hown5 hgrow5 hv5
        have HG5 := hide hgrow5
        have k1 : w5.cell? ⟨S, 1, none⟩ = some (.slice (some ⟨g, 0, none⟩) N p1) := (World.cell?_of_block (hgrow5.block S hS3 (fun e => by cases e))).trans (unhide HST3).c1
        have fz1 : w5.frozen? ⟨S, 1, none⟩ = false := (World.frozen?_of_block (hgrow5.block S hS3 (fun e => by cases e))).trans (unhide HST3).f1
        have HST5 : Hid (Str (w5.setCell ⟨S, 1, none⟩ v5) S lim 0 v5 (M.drop n)) := (unhide HST3).put hgrow5 (fun g e => by cases e) (by first | (rw [List.length_drop, hN, List.map_drop]; exact hown5) | simpa [List.map_drop, hN] using hown5) (drop_rng (unhide HRNG) n)
        have HFB5 : Hid (FB S hv.ownBlock w (w5.setCell ⟨S, 1, none⟩ v5)) := ((unhide HFB3).trans (FB.of_grown hgrow5) (fun g e => by cases e)).put v5
        have HV5 : Hid (v5.ownBlock = hv.ownBlock ∨ ∀ g, v5.ownBlock = some g → w.heap.size ≤ g) := by
          rcases hv5 with e | e
          · exact .inr (fun g k => by rw [e] at k; cases k)
          · exact .inr (fun g k => by rw [e] at k; cases k; exact (unhide HFB3).size)
        have HPK5 : Hid (Pks (w5.setCell ⟨S, 1, none⟩ v5) w.heap.size v qs Ps) := by
          have hb : Below w3.heap.size w3 w5 := ⟨hgrow5.os, hgrow5.tape, hgrow5.output, hgrow5.size, fun k hk => hgrow5.block k hk (fun e => by cases e)⟩
          have kp := (unhide HPK).below hb
          have hx := (BX.refl S isAny w5).set 1 v5 trivial
          exact ⟨owns_bx kp.row hx hS, kp.len, fun i q P h1 h2 => (kp.mean i q P h1 h2).bx hx hS⟩
        obtain ⟨a5, n5, p5, rfl⟩ : ∃ a1 n1 p1, v5 = .slice a1 n1 p1 := by
          rcases hown5.2 with ⟨rfl, _⟩ | ⟨g, cap, cur, rfl, _⟩
          · exact ⟨_, _, _, rfl⟩
          · exact ⟨_, _, _, rfl⟩
        clear hown5 hgrow5 hv5 HG5 HFB3 HPK HE
        go_wp2
        go_returns
        show FedTo S lim hv (L ++ ys) w _ _
        rw [unhide HMM]
        exact ⟨_, _, qs, Ps, n, 3, _, rfl, by rw [hN]; exact hn, unhide HSR, hm0, unhide HPK5, .inl ⟨rfl, rfl, unhide HST5⟩, unhide HV5, unhide HFB5⟩
  · have hm1 : (m == 3) = false := beq_eq_false_iff_ne.2 hm
    have HG3 : Hid (Laid w3) := (unhide HFB3).laid (unhide HG) hS0 (unhide HROW)
    have HSF := hide (sfail_any S d hd _ m 0 _ w3 (unhide HG3) (unhide HE) (unhide HST3).c1 (unhide HST3).c2 (unhide HST3).f1 (unhide HST3).f2)
    go_wp2_with fail
    refine (unhide HSF).mono ?_
    rintro e w4 ⟨y, rfl, hE4, k1, k2, hx4⟩
    have hS3 : S < w3.heap.size := cell_lt (unhide HST3).c0
    have HST4 : Hid (Str w4 S lim m (.slice none 0 0) []) := ⟨((unhide hx4).cell 0 (by omega)).trans (unhide HST3).c0, k1, k2, ((unhide hx4).frozen 1).trans (unhide HST3).f1, ((unhide hx4).frozen 2).trans (unhide HST3).f2, World.ownsRow_nil _ _ _ _, fun j => by simp⟩
    have HFB4 : Hid (FB S hv.ownBlock w w4) := (unhide HFB3).trans (row' := none) (FB.of_bx (unhide hx4)) (fun g e => by cases e)
    have HPK4 : Hid (Pks w4 w.heap.size v qs Ps) := ⟨owns_bx (unhide HPK).row (unhide hx4) hS, (unhide HPK).len, fun i q P h1 h2 => ((unhide HPK).mean i q P h1 h2).bx (unhide hx4) hS⟩
    clear k1 k2 hx4 HSF
    go_wp2
    go_returns
    show FedTo S lim hv (L ++ ys) w _ _
    rw [unhide HMM]
    exact ⟨_, _, qs, Ps, n, m, _, rfl, hn, unhide HSR, hm0, unhide HPK4, .inr ⟨hm, ⟨_, rfl⟩, unhide hE4, unhide HST4⟩, .inr (fun g e => by cases e), unhide HFB4⟩
end Go.Proofs.YtoocdfgjkeheaaaGreatDoor.K
/- Proved here: dovecoteref0.EqPacket tells whether two packets are one. Helper contract. -/
namespace Go.Proofs.YtoocdfgjkeheaaaGreatDoor.K
open Go.RowKit
set_option maxRecDepth 100000

/-- a call that tells c and makes memory alone, in whatever world behind w -/
def Tells (w : World) (f : Nat) (x y : Value) (c : Bool) : Prop := ∀ W, Below w.heap.size w W → Calls Tryz.prog f #[x, y] W fun e w' => e = .returned (.bool c) ∧ Below W.heap.size W w'
set_option maxHeartbeats 40000000 in
theorem eqpk_yes (a0 b0 : Int) (a1 b1 : Bool) (a2 b2 : Int) (a3 b3 : Bool) (a4 b4 : ByteArray) (a5 b5 : Int) (a6 b6 : ByteArray) (a7 b7 : Value) (a8 b8 : ByteArray) (a9 b9 : Bool) (a10 b10 : Int) (a11 b11 : Value) (a12 b12 : Value) (a13 b13 : Value) (a14 b14 : Int) (a15 b15 : Bool) (a16 b16 : Value) (a17 b17 : Value) (a18 b18 : Value) (w : World) (k0 : (a0 == b0) = true) (k1 : (a1 == b1) = true) (k2 : (a2 == b2) = true) (k3 : (a3 == b3) = true) (k4 : (a4.toList == b4.toList) = true) (k5 : (a5 == b5) = true) (k6 : (a6.toList == b6.toList) = true) (k7 : Hid (Tells w 64 a7 b7 true)) (k8 : (a8.toList == b8.toList) = true) (k9 : (a9 == b9) = true) (k10 : (a10 == b10) = true) (k11 : Hid (Tells w 65 a11 b11 true)) (k12 : Hid (Tells w 66 a12 b12 true)) (k13 : Hid (Tells w 66 a13 b13 true)) (k14 : (a14 == b14) = true) (k15 : (a15 == b15) = true) (k16 : Hid (Tells w 67 a16 b16 true)) (k17 : Hid (Tells w 66 a17 b17 true)) (k18 : Hid (Tells w 68 a18 b18 true)) :
    Calls Tryz.prog 30 #[.agg #[.int .i64 a0, .bool a1, .int .i64 a2, .bool a3, .string a4, .int .i64 a5, .string a6, a7, .string a8, .bool a9, .int .i64 a10, a11, a12, a13, .int .i64 a14, .bool a15, a16, a17, a18], .agg #[.int .i64 b0, .bool b1, .int .i64 b2, .bool b3, .string b4, .int .i64 b5, .string b6, b7, .string b8, .bool b9, .int .i64 b10, b11, b12, b13, .int .i64 b14, .bool b15, b16, b17, b18]] w fun e w' => e = .returned (.bool true) ∧ Below w.heap.size w w' := by
  go_enter Tryz.func30, Tryz.ntmps30
  go_wp2_with fail
  refine ((unhide k7) _ (by go_grown)).mono ?_
  rintro e w7 ⟨rfl, hb7⟩
  have HB7 : Hid (Below w.heap.size w w7) := Below.trans (by go_grown) (hb7.mono (by simp; omega))
  have hc7 := fun (b o : Nat) (h : b < w.heap.size + 2) => hb7.cell (p := (⟨b, o, none⟩ : Addr)) (show b < _ by simp; omega)
  have hz7 : w.heap.size + 2 ≤ w7.heap.size := by (have := hb7.size;  (try simp at this);  omega)
  clear hb7
  go_wp2_with fail
  refine ((unhide k11) _ (unhide HB7)).mono ?_
  rintro e w11 ⟨rfl, hb11⟩
  have HB11 : Hid (Below w.heap.size w w11) := (unhide HB7).trans (hb11.mono (unhide HB7).size)
  have hc11 := fun (b o : Nat) (h : b < w.heap.size + 2) => (hb11.cell (p := (⟨b, o, none⟩ : Addr)) (show b < _ by omega)).trans (hc7 b o h)
  clear hc7
  have hz11 : w.heap.size + 2 ≤ w11.heap.size := by (have := hb11.size;  (try simp at this);  omega)
  clear hb11
  go_wp2_with fail
  refine ((unhide k12) _ (unhide HB11)).mono ?_
  rintro e w12 ⟨rfl, hb12⟩
  have HB12 : Hid (Below w.heap.size w w12) := (unhide HB11).trans (hb12.mono (unhide HB11).size)
  have hc12 := fun (b o : Nat) (h : b < w.heap.size + 2) => (hb12.cell (p := (⟨b, o, none⟩ : Addr)) (show b < _ by omega)).trans (hc11 b o h)
  clear hc11
  have hz12 : w.heap.size + 2 ≤ w12.heap.size := by (have := hb12.size;  (try simp at this);  omega)
  clear hb12
  go_wp2_with fail
  refine ((unhide k13) _ (unhide HB12)).mono ?_
  rintro e w13 ⟨rfl, hb13⟩
  have HB13 : Hid (Below w.heap.size w w13) := (unhide HB12).trans (hb13.mono (unhide HB12).size)
  have hc13 := fun (b o : Nat) (h : b < w.heap.size + 2) => (hb13.cell (p := (⟨b, o, none⟩ : Addr)) (show b < _ by omega)).trans (hc12 b o h)
  clear hc12
  have hz13 : w.heap.size + 2 ≤ w13.heap.size := by (have := hb13.size;  (try simp at this);  omega)
  clear hb13
  go_wp2_with fail
  refine ((unhide k16) _ (unhide HB13)).mono ?_
  rintro e w16 ⟨rfl, hb16⟩
  have HB16 : Hid (Below w.heap.size w w16) := (unhide HB13).trans (hb16.mono (unhide HB13).size)
  have hc16 := fun (b o : Nat) (h : b < w.heap.size + 2) => (hb16.cell (p := (⟨b, o, none⟩ : Addr)) (show b < _ by omega)).trans (hc13 b o h)
  clear hc13
  have hz16 : w.heap.size + 2 ≤ w16.heap.size := by (have := hb16.size;  (try simp at this);  omega)
  clear hb16
  go_wp2_with fail
  refine ((unhide k17) _ (unhide HB16)).mono ?_
  rintro e w17 ⟨rfl, hb17⟩
  have HB17 : Hid (Below w.heap.size w w17) := (unhide HB16).trans (hb17.mono (unhide HB16).size)
  have hc17 := fun (b o : Nat) (h : b < w.heap.size + 2) => (hb17.cell (p := (⟨b, o, none⟩ : Addr)) (show b < _ by omega)).trans (hc16 b o h)
  clear hc16
  have hz17 : w.heap.size + 2 ≤ w17.heap.size := by (have := hb17.size;  (try simp at this);  omega)
  clear hb17
  go_wp2_with fail
  refine ((unhide k18) _ (unhide HB17)).mono ?_
  rintro e w18 ⟨rfl, hb18⟩
  have HB18 : Hid (Below w.heap.size w w18) := (unhide HB17).trans (hb18.mono (unhide HB17).size)
  have hc18 := fun (b o : Nat) (h : b < w.heap.size + 2) => (hb18.cell (p := (⟨b, o, none⟩ : Addr)) (show b < _ by omega)).trans (hc17 b o h)
  clear hc17
  have hz18 : w.heap.size + 2 ≤ w18.heap.size := by (have := hb18.size;  (try simp at this);  omega)
  clear hb18
  go_wp2
  go_ret
  exact ⟨rfl, unhide HB18⟩
end Go.Proofs.YtoocdfgjkeheaaaGreatDoor.K
/- Proved here: dovecoteref0.EqProps tells whether two lists of properties are one. Helper contract. -/
namespace Go.Proofs.YtoocdfgjkeheaaaGreatDoor.K
open Go.RowKit

theorem eqp_any (va vb : Value) (l m : List Pr) (w : World) (ha : Prp w va l) (hb : Prp w vb m) (hmx : l.length ≤ 1000000000) :
    Calls Tryz.prog 64 #[va, vb] w fun e w' => (∃ b, e = .returned (.bool b) ∧ (b = true ↔ l = m)) ∧ ∃ k, w' = w.drewN k := by
  obtain ⟨ao, ca, rfl, ha⟩ := ha
  obtain ⟨bo, cb, rfl, hb⟩ := hb
  by_cases hl : l.length = m.length
  · rcases ha with rfl | ⟨ba, oa, rfl, hca⟩
    · obtain rfl : m = [] := List.length_eq_zero_iff.1 hl.symm
      refine (eqp_nil _ _ _ _ _).mono ?_
      rintro e w' ⟨rfl, rfl⟩
      exact ⟨⟨true, rfl, by simp⟩, 0, rfl⟩
    · rcases hb with rfl | ⟨bb, ob, rfl, hcb⟩
      · obtain rfl : l = [] := List.length_eq_zero_iff.1 hl
        refine (eqp_nil _ _ _ _ _).mono ?_
        rintro e w' ⟨rfl, rfl⟩
        exact ⟨⟨true, rfl, by simp⟩, 0, rfl⟩
      · rw [← hl]
        refine (eqp_core ba oa bb ob ca cb l m l.length w rfl hl.symm hmx hca hcb).mono ?_
        rintro e w' ⟨⟨b, rfl, hbb⟩, k, rfl⟩
        exact ⟨⟨b, rfl, hbb.trans ⟨fun h => at0_ext hl h, fun h j _ => by rw [h]⟩⟩, k, rfl⟩
  · refine (eqp_len ao bo l.length m.length ca cb w hl).mono ?_
    rintro e w' ⟨rfl, rfl⟩
    exact ⟨⟨false, rfl, by constructor; (intro h; cases h); (intro h; exact absurd (by rw [h]) hl)⟩, 0, rfl⟩
end Go.Proofs.YtoocdfgjkeheaaaGreatDoor.K
/- Proved here: dovecoteref0.EqStrings tells whether two lists of texts are one. Helper contract. -/
namespace Go.Proofs.YtoocdfgjkeheaaaGreatDoor.K
open Go.RowKit

theorem text_ext {x y : ByteArray} (h : x.toList = y.toList) : x = y := by
  rw [ByteArray.toList_eq, ByteArray.toList_eq] at h
  exact ByteArray.ext (Array.toList_inj.1 h)
/-- the value reads as the list -/
def Txs (w : World) (v : Value) (l : List ByteArray) : Prop :=
  ∃ ao cap, v = .slice ao l.length cap ∧ (l.length ≤ cap ∧ cap ≤ maxLen) ∧ (l = [] ∨ ∃ b off, ao = some ⟨b, off, none⟩ ∧ ∀ j, j < l.length → w.cell? ⟨b, off + j, none⟩ = some (.string (l.getD j ⟨#[]⟩)))
theorem txs_of_owns {w : World} {B : Nat} {e : TypeId} {v : Value} {l : List ByteArray} (h : w.ownsRow B e 1 v l.length (l.map (Value.string))) : Txs w v l := by
  rcases h.2 with ⟨rfl, h1⟩ | ⟨g, cap, cur, rfl, hB, hg, h1, h2, h3, h4⟩
  · have : l = [] := List.length_eq_zero_iff.1 h1
    subst this
    exact ⟨none, 0, rfl, by simp, .inl rfl⟩
  · refine ⟨_, cap, rfl, ⟨h1, h2⟩, .inr ⟨g, 0, rfl, fun j hj => ?_⟩⟩
    rw [Nat.zero_add, h.cellAt j (by omega), List.getElem?_map, List.getElem?_eq_getElem hj, List.getD_eq_getElem?_getD, List.getElem?_eq_getElem hj]
    rfl
theorem eqs_len (ao bo : Option Addr) (n m ca cb : Nat) (w : World) (h : n ≠ m) :
    Calls Tryz.prog 66 #[.slice ao n ca, .slice bo m cb] w fun e w' => e = .returned (.bool false) ∧ w' = w := by
  have h1 : ((n : Int) == (m : Int)) = false := beq_eq_false_iff_ne.2 (by omega)
  go_enter Tryz.func66, Tryz.ntmps66
  go_wp2
  go_ret
  exact ⟨rfl, rfl⟩

theorem eqs_nil (ao bo : Option Addr) (ca cb : Nat) (w : World) :
    Calls Tryz.prog 66 #[.slice ao 0 ca, .slice bo 0 cb] w fun e w' => e = .returned (.bool true) ∧ w' = w := by
  go_enter Tryz.func66, Tryz.ntmps66
  go_wp2
  refine wp_loop_rounds 1 ?_
  rw [rounds_succ]
  go_wp2
  go_ret
  exact ⟨rfl, rfl⟩

set_option maxHeartbeats 1000000 in
theorem eqs_core (ba oa bb ob n ca cb : Nat) (f g : Nat → ByteArray) (w : World) (hn : n ≤ maxLen)
    (hf : ∀ j, j < n → w.cell? ⟨ba, oa + j, none⟩ = some (.string (f j))) (hg : ∀ j, j < n → w.cell? ⟨bb, ob + j, none⟩ = some (.string (g j))) :
    Calls Tryz.prog 66 #[.slice (some ⟨ba, oa, none⟩) n ca, .slice (some ⟨bb, ob, none⟩) n cb] w fun e w' => (∃ b, e = .returned (.bool b) ∧ (b = true ↔ ∀ j, j < n → f j = g j)) ∧ ∃ k, w' = w.drewN k := by
  unfold maxLen at hn
  have HF := hide hf
  have HG := hide hg
  clear hf hg
  go_enter Tryz.func66, Tryz.ntmps66
  go_wp2
  go_loopw [5] (fun i wr => ∃ k q : Nat, k ≤ n ∧ i = .int .i64 k ∧ wr = w.drewN q ∧ ∀ j, j < k → f j = g j) (fun i _ => n - (intOf i).toNat)
  case atStart => exact ⟨0, 0, Nat.zero_le _, rfl, rfl, fun j hj => absurd hj (Nat.not_lt_zero j)⟩
  case round =>
    obtain ⟨k, q, hk, rfl, rfl, hall⟩ := hrel
    have HA := hide hall
    clear hall
    by_cases hlt : k < n
    · have hfk := (unhide HF) k hlt
      have hgk := (unhide HG) k hlt
      generalize hx : f k = x at hfk
      generalize hy : g k = y at hgk
      have HX := hide hx
      have HY := hide hy
      clear hx hy
      by_cases hxy : x = y
      · have hb : (x.toList == y.toList) = true := by rw [hxy]; exact beq_self_eq_true _
        have HE := hide hxy
        clear hxy
        go_wp2
        go_quiet (fail)
        go_wp2
        go_roundw
        case rel => exact ⟨k + 1, _, by omega, by go_num, rfl, fun j hj => by
          rcases Nat.lt_succ_iff_lt_or_eq.1 hj with h | h
          · exact (unhide HA) j h
          · rw [h, unhide HX, unhide HY]; exact unhide HE⟩
        case measure => simp [intOf]; omega
      · have hb : (x.toList == y.toList) = false := beq_eq_false_iff_ne.2 (fun e => hxy (text_ext e))
        go_wp2
        go_quiet (fail)
        go_wp2
        go_ret
        refine ⟨⟨_, rfl, ?_⟩, q + nq, drewN_drewN _ _ _⟩
        constructor
        · intro h; cases h
        · intro h; exact absurd ((unhide HX).symm.trans ((h k hlt).trans (unhide HY))) hxy
    · go_wp2
      go_ret
      exact ⟨⟨_, rfl, fun _ j hj => (unhide HA) j (by omega), fun _ => rfl⟩, _, rfl⟩

theorem eqs_any (va vb : Value) (xs ys : List ByteArray) (w : World) (ha : Txs w va xs) (hb : Txs w vb ys) :
    Calls Tryz.prog 66 #[va, vb] w fun e w' => e = .returned (.bool (decide (xs = ys))) ∧ ∃ k, w' = w.drewN k := by
  obtain ⟨ao, ca, rfl, hla, ha⟩ := ha
  obtain ⟨bo, cb, rfl, _, hb⟩ := hb
  by_cases hl : xs.length = ys.length
  · rcases ha with rfl | ⟨ba, oa, rfl, hca⟩
    · have hb0 : ys = [] := List.length_eq_zero_iff.1 hl.symm
      subst hb0
      refine (eqs_nil _ _ _ _ _).mono ?_
      rintro e w' ⟨rfl, rfl⟩
      exact ⟨by simp, 0, rfl⟩
    · rcases hb with rfl | ⟨bb, ob, rfl, hcb⟩
      · have ha0 : xs = [] := List.length_eq_zero_iff.1 hl
        subst ha0
        refine (eqs_nil _ _ _ _ _).mono ?_
        rintro e w' ⟨rfl, rfl⟩
        exact ⟨by simp, 0, rfl⟩
      · rw [← hl] at hcb ⊢
        refine (eqs_core ba oa bb ob xs.length ca cb (fun j => xs.getD j ⟨#[]⟩) (fun j => ys.getD j ⟨#[]⟩) w (Nat.le_trans hla.1 hla.2) hca hcb).mono ?_
        rintro e w' ⟨⟨b, rfl, hbb⟩, k, rfl⟩
        refine ⟨?_, k, rfl⟩
        have : (b = true) ↔ xs = ys := by
          rw [hbb]
          constructor
          · intro h
            apply List.ext_getElem hl
            intro i h1 h2
            have := h i h1
            rw [List.getD_eq_getElem?_getD, List.getD_eq_getElem?_getD, List.getElem?_eq_getElem h1, List.getElem?_eq_getElem h2] at this
            exact this
          · rintro rfl j _; rfl
        rw [show b = decide (xs = ys) from by rw [Bool.eq_iff_iff, this]; simp]
  · refine (eqs_len ao bo xs.length ys.length ca cb w hl).mono ?_
    rintro e w' ⟨rfl, rfl⟩
    refine ⟨?_, 0, rfl⟩
    rw [show decide (xs = ys) = false from decide_eq_false (fun h => hl (by rw [h]))]
end Go.Proofs.YtoocdfgjkeheaaaGreatDoor.K
/- Proved here: dovecoteref0.EqWill tells whether two wills are one. Helper contract. -/
namespace Go.Proofs.YtoocdfgjkeheaaaGreatDoor.K
open Go.RowKit
set_option maxRecDepth 100000

set_option maxHeartbeats 4000000 in
theorem eqw_any (t t' p p' : ByteArray) (q q' : Int) (r r' : Bool) (ao ao' : Option Addr) (n n' cap cap' : Nat) (l l' : List Pr) (w : World) (ha : Prp w (.slice ao n cap) l) (hb : Prp w (.slice ao' n' cap') l') (hmx : l.length ≤ 1000000000) :
    Calls Tryz.prog 115 #[.agg #[.string t, .string p, .int .i64 q, .bool r, .slice ao n cap], .agg #[.string t', .string p', .int .i64 q', .bool r', .slice ao' n' cap']] w fun e w' => (∃ b, e = .returned (.bool b) ∧ (b = true ↔ (t = t' ∧ p = p' ∧ q = q' ∧ r = r' ∧ l = l'))) ∧ Below w.heap.size w w' := by
  have HA := hide ha
  have HB := hide hb
  clear ha hb
  by_cases h0 : t = t'
  · have k0 : (t.toList == t'.toList) = true := by rw [h0]; exact beq_self_eq_true _
    have H0 := hide h0
    clear h0
    by_cases h1 : p = p'
    · have k1 : (p.toList == p'.toList) = true := by rw [h1]; exact beq_self_eq_true _
      have H1 := hide h1
      clear h1
      by_cases h2 : q = q'
      · have k2 : (q == q') = true := by rw [h2]; exact beq_self_eq_true _
        have H2 := hide h2
        clear h2
        by_cases h3 : r = r'
        · have k3 : (r == r') = true := by rw [h3]; exact beq_self_eq_true _
          have H3 := hide h3
          clear h3
          go_enter Tryz.func115, Tryz.ntmps115
          go_wp2_with fail
          refine (eqp_any _ _ l l' _ ((unhide HA).below (by go_grown)) ((unhide HB).below (by go_grown)) hmx).mono ?_
          rintro e w1 ⟨⟨b, rfl, hbb⟩, k, rfl⟩
          have HBB := hide hbb
          clear hbb
          cases b
          · go_wp2
            go_ret
            exact ⟨⟨false, rfl, by constructor; (intro h; cases h); (intro h; exact (unhide HBB).2 h.2.2.2.2)⟩, below_drewN (by go_grown) k⟩
          · go_wp2
            go_ret
            exact ⟨⟨true, rfl, fun _ => ⟨unhide H0, unhide H1, unhide H2, unhide H3, (unhide HBB).1 trivial⟩, fun _ => rfl⟩, below_drewN (by go_grown) k⟩
        · have k3 : (r == r') = false := beq_eq_false_iff_ne.2 (h3)
          have H3 := hide h3
          clear h3
          go_enter Tryz.func115, Tryz.ntmps115
          go_wp2
          go_ret
          exact ⟨⟨false, rfl, by constructor; (intro h; cases h); (intro h; exact absurd h.2.2.2.1 (unhide H3))⟩, by go_grown⟩
      · have k2 : (q == q') = false := beq_eq_false_iff_ne.2 (h2)
        have H2 := hide h2
        clear h2
        go_enter Tryz.func115, Tryz.ntmps115
        go_wp2
        go_ret
        exact ⟨⟨false, rfl, by constructor; (intro h; cases h); (intro h; exact absurd h.2.2.1 (unhide H2))⟩, by go_grown⟩
    · have k1 : (p.toList == p'.toList) = false := beq_eq_false_iff_ne.2 (fun e => h1 (text_ext e))
      have H1 := hide h1
      clear h1
      go_enter Tryz.func115, Tryz.ntmps115
      go_wp2
      go_ret
      exact ⟨⟨false, rfl, by constructor; (intro h; cases h); (intro h; exact absurd h.2.1 (unhide H1))⟩, by go_grown⟩
  · have k0 : (t.toList == t'.toList) = false := beq_eq_false_iff_ne.2 (fun e => h0 (text_ext e))
    have H0 := hide h0
    clear h0
    go_enter Tryz.func115, Tryz.ntmps115
    go_wp2
    go_ret
    exact ⟨⟨false, rfl, by constructor; (intro h; cases h); (intro h; exact absurd h.1 (unhide H0))⟩, by go_grown⟩
end Go.Proofs.YtoocdfgjkeheaaaGreatDoor.K
/- Proved here: dovecoteref0.EqWills tells whether two lists of wills are one. Helper contract. -/
namespace Go.Proofs.YtoocdfgjkeheaaaGreatDoor.K
open Go.RowKit
set_option maxRecDepth 100000

abbrev wl0 : Wl := ⟨⟨#[]⟩, ⟨#[]⟩, 0, false, []⟩
/-- a will lies there -/
def WlIs (w : World) (b off : Nat) (u : Wl) : Prop := ∃ ao n cap, (w.cell? ⟨b, off, none⟩ = some (.string u.topic) ∧ w.cell? ⟨b, off + 1, none⟩ = some (.string u.payload) ∧ w.cell? ⟨b, off + 2, none⟩ = some (.int .i64 u.qos) ∧ w.cell? ⟨b, off + 3, none⟩ = some (.bool u.retain) ∧ w.cell? ⟨b, off + 4, none⟩ = some (.slice ao n cap)) ∧ Prp w (.slice ao n cap) u.props ∧ u.props.length ≤ 1000000000
def WlAt (w : World) (b off : Nat) (us : List Wl) : Prop := ∀ k, k < us.length → WlIs w b (off + k * 5) (us.getD k wl0)
theorem WlIs.below {w w' : World} {b off : Nat} {u : Wl} (h : WlIs w b off u) (hb : Below w.heap.size w w') : WlIs w' b off u := by
  obtain ⟨ao, n, cap, ⟨h0, h1, h2, h3, h4⟩, h5, h6⟩ := h
  have hl : b < w.heap.size := cell_lt h0
  exact ⟨ao, n, cap, ⟨(hb.cell hl).trans h0, (hb.cell hl).trans h1, (hb.cell hl).trans h2, (hb.cell hl).trans h3, (hb.cell hl).trans h4⟩, h5.below hb, h6⟩
theorem wl_eq (u v : Wl) : u = v ↔ (u.topic = v.topic ∧ u.payload = v.payload ∧ u.qos = v.qos ∧ u.retain = v.retain ∧ u.props = v.props) := by
  obtain ⟨a, b, c, d, e⟩ := u
  obtain ⟨a', b', c', d', e'⟩ := v
  simp
set_option maxHeartbeats 4000000 in
theorem eqws_core (ba oa bb ob ca cb : Nat) (l m : List Wl) (len : Nat) (w : World) (hl : l.length = len) (hm : m.length = len) (hmx : len ≤ 1000000000) (ha : WlAt w ba oa l) (hb : WlAt w bb ob m) :
    Calls Tryz.prog 65 #[.slice (some ⟨ba, oa, none⟩) len ca, .slice (some ⟨bb, ob, none⟩) len cb] w fun e w' => (∃ b, e = .returned (.bool b) ∧ (b = true ↔ ∀ j, j < len → l.getD j wl0 = m.getD j wl0)) ∧ Below w.heap.size w w' := by
  have HL := hide hl
  have HM := hide hm
  have HA := hide ha
  have HB := hide hb
  clear hl hm ha hb
  go_enter Tryz.func65, Tryz.ntmps65
  go_wp2
  go_loopw [5] (fun i wr => ∃ k : Nat, k ≤ len ∧ i = .int .i64 k ∧ Hid (∀ j, j < k → l.getD j wl0 = m.getD j wl0) ∧ Hid (Below w.heap.size w wr)) (fun i _ => len - (intOf i).toNat)
  case atStart => exact ⟨0, Nat.zero_le _, rfl, fun j hj => absurd hj (Nat.not_lt_zero j), Below.refl _ _⟩
  case round =>
    obtain ⟨k, hk, rfl, HALL, HBEL⟩ := hrel
    by_cases hlt : k < len
    · have hx := ((unhide HA) k (by rw [unhide HL]; exact hlt)).below (unhide HBEL)
      have hy := ((unhide HB) k (by rw [unhide HM]; exact hlt)).below (unhide HBEL)
      have hwl := wl_eq (l.getD k wl0) (m.getD k wl0)
      generalize hu : l.getD k wl0 = u at hx hwl
      generalize hv : m.getD k wl0 = v at hy hwl
      have HU := hide hu
      have HV := hide hv
      have HWL := hide hwl
      clear hu hv hwl
      obtain ⟨ao, n, cap, hc, hp, hq⟩ := hx
      obtain ⟨ao', n', cap', hc', hp', hq'⟩ := hy
      have HP := hide hp
      have HP' := hide hp'
      have HC := hide hc
      have HC' := hide hc'
      have hlb : ba < wr.heap.size := cell_lt hc.1
      have hlb' : bb < wr.heap.size := cell_lt hc'.1
      obtain ⟨x1, x2, x3, x4, x5⟩ := hc
      obtain ⟨y1, y2, y3, y4, y5⟩ := hc'
      clear hp hp'
      have HK : Hid (∀ W : World, Below wr.heap.size wr W → (fun w' => (w'.cell? ⟨ba, oa + k * 5, none⟩ = some (.string u.topic) ∧ w'.cell? ⟨ba, oa + k * 5 + 1, none⟩ = some (.string u.payload) ∧ w'.cell? ⟨ba, oa + k * 5 + 2, none⟩ = some (.int .i64 u.qos) ∧ w'.cell? ⟨ba, oa + k * 5 + 3, none⟩ = some (.bool u.retain) ∧ w'.cell? ⟨ba, oa + k * 5 + 4, none⟩ = some (.slice ao n cap)) ∧ (w'.cell? ⟨bb, ob + k * 5, none⟩ = some (.string v.topic) ∧ w'.cell? ⟨bb, ob + k * 5 + 1, none⟩ = some (.string v.payload) ∧ w'.cell? ⟨bb, ob + k * 5 + 2, none⟩ = some (.int .i64 v.qos) ∧ w'.cell? ⟨bb, ob + k * 5 + 3, none⟩ = some (.bool v.retain) ∧ w'.cell? ⟨bb, ob + k * 5 + 4, none⟩ = some (.slice ao' n' cap'))) W) := by
        intro W hW
        obtain ⟨x1, x2, x3, x4, x5⟩ := unhide HC
        obtain ⟨y1, y2, y3, y4, y5⟩ := unhide HC'
        exact ⟨⟨(hW.cell hlb).trans x1, (hW.cell hlb).trans x2, (hW.cell hlb).trans x3, (hW.cell hlb).trans x4, (hW.cell hlb).trans x5⟩, (hW.cell hlb').trans y1, (hW.cell hlb').trans y2, (hW.cell hlb').trans y3, (hW.cell hlb').trans y4, (hW.cell hlb').trans y5⟩
      go_wp2_with fail
      go_region_held3 (fun w' => (w'.cell? ⟨ba, oa + k * 5, none⟩ = some (.string u.topic) ∧ w'.cell? ⟨ba, oa + k * 5 + 1, none⟩ = some (.string u.payload) ∧ w'.cell? ⟨ba, oa + k * 5 + 2, none⟩ = some (.int .i64 u.qos) ∧ w'.cell? ⟨ba, oa + k * 5 + 3, none⟩ = some (.bool u.retain) ∧ w'.cell? ⟨ba, oa + k * 5 + 4, none⟩ = some (.slice ao n cap)) ∧ (w'.cell? ⟨bb, ob + k * 5, none⟩ = some (.string v.topic) ∧ w'.cell? ⟨bb, ob + k * 5 + 1, none⟩ = some (.string v.payload) ∧ w'.cell? ⟨bb, ob + k * 5 + 2, none⟩ = some (.int .i64 v.qos) ∧ w'.cell? ⟨bb, ob + k * 5 + 3, none⟩ = some (.bool v.retain) ∧ w'.cell? ⟨bb, ob + k * 5 + 4, none⟩ = some (.slice ao' n' cap')))
        (first | exact (unhide HK) _ (below_drewN (Below.refl _ _) 1) | exact (unhide HK) _ (unhide HB2) | exact (unhide HK) _ (Below.refl _ _))
        (first | (go_at_call 115; refine (eqw_any u.topic v.topic u.payload v.payload u.qos v.qos u.retain v.retain ao ao' n n' cap cap' u.props v.props _ ((unhide HP).below (below_drewN (Below.refl _ _) 1)) ((unhide HP').below (below_drewN (Below.refl _ _) 1)) hq).mono ?_; rintro e w2 ⟨⟨bo, rfl, hbo⟩, hb2⟩; have HBO := hide hbo; have HB2 : Hid (Below wr.heap.size wr w2) := (below_drewN (Below.refl _ _) 1).trans hb2; clear hbo hb2) | fail)
      have HB3 : Hid (Below w.heap.size w w2) := (unhide HBEL).trans ((unhide HB2).mono (unhide HBEL).size)
      clear HK HC HC' x1 x2 x3 x4 x5 y1 y2 y3 y4 y5 HB2
      have HUV : Hid ((bo = true) ↔ u = v) := (unhide HBO).trans (unhide HWL).symm
      clear HBO HWL
      cases bo
      · have HNE : Hid (l.getD k wl0 ≠ m.getD k wl0) := fun e => by
          rw [unhide HU, unhide HV] at e
          have := (unhide HUV).2 e
          cases this
        go_wp2
        go_ret
        refine ⟨⟨_, rfl, ?_⟩, unhide HB3⟩
        constructor
        · intro h; cases h
        · intro h; exact absurd (h k hlt) (unhide HNE)
      · have HE : Hid (l.getD k wl0 = m.getD k wl0) := by
          show _ = _
          rw [unhide HU, unhide HV]
          exact (unhide HUV).1 rfl
        go_wp2
        go_roundw
        case rel => exact ⟨k + 1, by omega, by go_num, fun j hj => by
          rcases Nat.lt_succ_iff_lt_or_eq.1 hj with h | h
          · exact (unhide HALL) j h
          · rw [h]; exact unhide HE, HB3⟩
        case measure => simp [intOf]; omega
    · go_wp2
      go_ret
      exact ⟨⟨_, rfl, fun _ j hj => (unhide HALL) j (by omega), fun _ => rfl⟩, unhide HBEL⟩
theorem eqws_len (ao bo : Option Addr) (n m ca cb : Nat) (w : World) (h : n ≠ m) :
    Calls Tryz.prog 65 #[.slice ao n ca, .slice bo m cb] w fun e w' => e = .returned (.bool false) ∧ w' = w := by
  have h1 : ((n : Int) == (m : Int)) = false := beq_eq_false_iff_ne.2 (by omega)
  go_enter Tryz.func65, Tryz.ntmps65
  go_wp2
  go_ret
  exact ⟨rfl, rfl⟩
theorem eqws_nil (ao bo : Option Addr) (ca cb : Nat) (w : World) :
    Calls Tryz.prog 65 #[.slice ao 0 ca, .slice bo 0 cb] w fun e w' => e = .returned (.bool true) ∧ w' = w := by
  go_enter Tryz.func65, Tryz.ntmps65
  go_wp2
  refine wp_loop_rounds 1 ?_
  rw [rounds_succ]
  go_wp2
  go_ret
  exact ⟨rfl, rfl⟩
/-- the value reads as the list -/
def Wls (w : World) (v : Value) (l : List Wl) : Prop := ∃ ao cap, v = .slice ao l.length cap ∧ (l.length ≤ cap ∧ cap ≤ maxLen) ∧ (l = [] ∨ ∃ b off, ao = some ⟨b, off, none⟩ ∧ WlAt w b off l)
theorem wl_ext {l m : List Wl} (hl : l.length = m.length) (h : ∀ j, j < l.length → l.getD j wl0 = m.getD j wl0) : l = m := by
  apply List.ext_getElem hl
  intro i h1 h2
  have := h i h1
  rw [List.getD_eq_getElem?_getD, List.getD_eq_getElem?_getD, List.getElem?_eq_getElem h1, List.getElem?_eq_getElem h2] at this
  exact this
theorem eqws_any (va vb : Value) (l m : List Wl) (w : World) (ha : Wls w va l) (hb : Wls w vb m) (hmx : l.length ≤ 1000000000) :
    Calls Tryz.prog 65 #[va, vb] w fun e w' => (∃ b, e = .returned (.bool b) ∧ (b = true ↔ l = m)) ∧ Below w.heap.size w w' := by
  obtain ⟨ao, ca, rfl, _, ha⟩ := ha
  obtain ⟨bo, cb, rfl, _, hb⟩ := hb
  by_cases hl : l.length = m.length
  · rcases ha with rfl | ⟨ba, oa, rfl, hca⟩
    · obtain rfl : m = [] := List.length_eq_zero_iff.1 hl.symm
      refine (eqws_nil _ _ _ _ _).mono ?_
      rintro e w' ⟨rfl, rfl⟩
      exact ⟨⟨true, rfl, by simp⟩, Below.refl _ _⟩
    · rcases hb with rfl | ⟨bb, ob, rfl, hcb⟩
      · obtain rfl : l = [] := List.length_eq_zero_iff.1 hl
        refine (eqws_nil _ _ _ _ _).mono ?_
        rintro e w' ⟨rfl, rfl⟩
        exact ⟨⟨true, rfl, by simp⟩, Below.refl _ _⟩
      · rw [← hl]
        refine (eqws_core ba oa bb ob ca cb l m l.length w rfl hl.symm hmx hca hcb).mono ?_
        rintro e w' ⟨⟨b, rfl, hbb⟩, hbel⟩
        exact ⟨⟨b, rfl, hbb.trans ⟨fun h => wl_ext hl h, fun h j _ => by rw [h]⟩⟩, hbel⟩
  · refine (eqws_len ao bo l.length m.length ca cb w hl).mono ?_
    rintro e w' ⟨rfl, rfl⟩
    exact ⟨⟨false, rfl, by constructor; (intro h; cases h); (intro h; exact absurd (by rw [h]) hl)⟩, Below.refl _ _⟩
end Go.Proofs.YtoocdfgjkeheaaaGreatDoor.K
/- Proved here: dovecoteref0.EqSubs tells whether two lists of subscriptions are one. Helper contract. -/
namespace Go.Proofs.YtoocdfgjkeheaaaGreatDoor.K
open Go.RowKit
set_option maxRecDepth 100000

abbrev sb0 : Sb := ⟨⟨#[]⟩, 0, false, false, 0⟩
def SbAt (w : World) (b off : Nat) (l : List Sb) : Prop := ∀ k, k < l.length → w.cell? ⟨b, off + k * 5, none⟩ = some (.string (l.getD k sb0).filter) ∧ w.cell? ⟨b, off + k * 5 + 1, none⟩ = some (.int .i64 (l.getD k sb0).qos) ∧ w.cell? ⟨b, off + k * 5 + 2, none⟩ = some (.bool (l.getD k sb0).nolocal) ∧ w.cell? ⟨b, off + k * 5 + 3, none⟩ = some (.bool (l.getD k sb0).aspub) ∧ w.cell? ⟨b, off + k * 5 + 4, none⟩ = some (.int .i64 (l.getD k sb0).handling)
/-- the value reads as the list -/
def Sbs (w : World) (v : Value) (l : List Sb) : Prop := ∃ ao cap, v = .slice ao l.length cap ∧ (l.length ≤ cap ∧ cap ≤ maxLen) ∧ (l = [] ∨ ∃ b off, ao = some ⟨b, off, none⟩ ∧ SbAt w b off l)
theorem Tryz.eqgB : Tryz.prog.eqGuardType Tryz.prog.depth 75 = false := by kernel_rfl
theorem Tryz.stoodB : Tryz.prog.stoodInHeld 75 = false := by kernel_rfl
theorem Tryz.undB : Tryz.prog.underlying 75 = some (.struct (Tryz.prog.fieldsOf 75)) := by kernel_rfl
def sameB (p q : Sb) : Bool := (p.filter.toList == q.filter.toList && p.qos == q.qos && p.nolocal == q.nolocal && p.aspub == q.aspub && p.handling == q.handling)
theorem neqB (f f' : ByteArray) (q q' h h' : Int) (n n' a a' : Bool) (w : World) : (binOp .neq 75 (.agg #[.string f, .int .i64 q, .bool n, .bool a, .int .i64 h]) (.agg #[.string f', .int .i64 q', .bool n', .bool a', .int .i64 h'])).run Tryz.prog w = .ok (.bool (!(sameB ⟨f, q, n, a, h⟩ ⟨f', q', n', a', h'⟩))) w := by
  rw [run_neq_struct, run_equalIn_struct w 9999 75 _ _ Tryz.undB Tryz.stoodB]
  rw [show Tryz.prog.fieldsOf 75 = _ from rfl]
  simp [Program.fieldsOf, Tryz.underlying75, Op.eqFields, go_sem]
  unfold sameB
  by_cases h1 : f.toList = f'.toList
  · by_cases h2 : q = q'
    · by_cases h3 : n = n'
      · by_cases h4 : a = a'
        · by_cases h5 : h = h'
          · simp [h1, h2, h3, h4, h5]
          · simp [h1, h2, h3, h4, h5]
        · simp [h1, h2, h3, h4]
      · simp [h1, h2, h3]
    · simp [h1, h2]
  · simp [h1]
theorem sameB_iff (p q : Sb) : sameB p q = true ↔ p = q := by
  obtain ⟨a, b, c, d, e⟩ := p
  obtain ⟨a', b', c', d', e'⟩ := q
  unfold sameB
  constructor
  · intro h
    simp only [Bool.and_eq_true, beq_iff_eq] at h
    obtain ⟨⟨⟨⟨h1, h2⟩, h3⟩, h4⟩, h5⟩ := h
    rw [text_ext h1, h2, h3, h4, h5]
  · rintro h
    cases h
    simp
set_option maxHeartbeats 4000000 in
theorem eqb_core (ba oa bb ob ca cb : Nat) (l m : List Sb) (len : Nat) (w : World) (hl : l.length = len) (hm : m.length = len) (hmx : len ≤ 1000000000) (ha : SbAt w ba oa l) (hb : SbAt w bb ob m) :
    Calls Tryz.prog 67 #[.slice (some ⟨ba, oa, none⟩) len ca, .slice (some ⟨bb, ob, none⟩) len cb] w fun e w' => (∃ b, e = .returned (.bool b) ∧ (b = true ↔ ∀ j, j < len → l.getD j sb0 = m.getD j sb0)) ∧ ∃ k, w' = w.drewN k := by
  have HL := hide hl
  have HM := hide hm
  have HA := hide ha
  have HB := hide hb
  clear hl hm ha hb
  go_enter Tryz.func67, Tryz.ntmps67
  go_wp2
  go_loopw [5] (fun i wr => ∃ k q : Nat, k ≤ len ∧ i = .int .i64 k ∧ wr = w.drewN q ∧ Hid (∀ j, j < k → l.getD j sb0 = m.getD j sb0)) (fun i _ => len - (intOf i).toNat)
  case atStart => exact ⟨0, 0, Nat.zero_le _, rfl, rfl, fun j hj => absurd hj (Nat.not_lt_zero j)⟩
  case round =>
    obtain ⟨k, q, hk, rfl, rfl, HALL⟩ := hrel
    by_cases hlt : k < len
    · obtain ⟨h0, h1, h2, h3, h4⟩ := (unhide HA) k (by rw [unhide HL]; exact hlt)
      obtain ⟨g0, g1, g2, g3, g4⟩ := (unhide HB) k (by rw [unhide HM]; exact hlt)
      obtain ⟨x1, x2, x3, x4, x5, hp⟩ : ∃ a b c d e, l.getD k sb0 = ⟨a, b, c, d, e⟩ := ⟨_, _, _, _, _, rfl⟩
      obtain ⟨y1, y2, y3, y4, y5, hp'⟩ : ∃ a b c d e, m.getD k sb0 = ⟨a, b, c, d, e⟩ := ⟨_, _, _, _, _, rfl⟩
      rw [hp] at h0 h1 h2 h3 h4
      rw [hp'] at g0 g1 g2 g3 g4
      simp only at h0 h1 h2 h3 h4 g0 g1 g2 g3 g4
      have HP := hide hp
      have HP' := hide hp'
      clear hp hp'
      have qg := Tryz.eqgB
      have qn := fun W => neqB x1 y1 x2 y2 x5 y5 x3 y3 x4 y4 W
      generalize hsb : sameB ⟨x1, x2, x3, x4, x5⟩ ⟨y1, y2, y3, y4, y5⟩ = sb at qn
      have HSB := hide hsb
      clear hsb
      cases sb
      · have HNE : Hid (l.getD k sb0 ≠ m.getD k sb0) := fun e => by
          rw [unhide HP, unhide HP'] at e
          have := (sameB_iff _ _).2 e
          rw [unhide HSB] at this
          cases this
        go_wp2
        go_quiet (fail)
        go_wp2
        go_ret
        refine ⟨⟨_, rfl, ?_⟩, q + nq, drewN_drewN _ _ _⟩
        constructor
        · intro h; cases h
        · intro h; exact absurd (h k hlt) (unhide HNE)
      · have HE : Hid (l.getD k sb0 = m.getD k sb0) := by
          show _ = _
          rw [unhide HP, unhide HP']
          exact (sameB_iff _ _).1 (unhide HSB)
        go_wp2
        go_quiet (fail)
        go_wp2
        go_roundw
        case rel => exact ⟨k + 1, _, by omega, by go_num, rfl, fun j hj => by
          rcases Nat.lt_succ_iff_lt_or_eq.1 hj with h | h
          · exact (unhide HALL) j h
          · rw [h]; exact unhide HE⟩
        case measure => simp [intOf]; omega
    · go_wp2
      go_ret
      exact ⟨⟨_, rfl, fun _ j hj => (unhide HALL) j (by omega), fun _ => rfl⟩, _, rfl⟩
theorem eqb_len (ao bo : Option Addr) (n m ca cb : Nat) (w : World) (h : n ≠ m) :
    Calls Tryz.prog 67 #[.slice ao n ca, .slice bo m cb] w fun e w' => e = .returned (.bool false) ∧ w' = w := by
  have h1 : ((n : Int) == (m : Int)) = false := beq_eq_false_iff_ne.2 (by omega)
  go_enter Tryz.func67, Tryz.ntmps67
  go_wp2
  go_ret
  exact ⟨rfl, rfl⟩
theorem eqb_nil (ao bo : Option Addr) (ca cb : Nat) (w : World) :
    Calls Tryz.prog 67 #[.slice ao 0 ca, .slice bo 0 cb] w fun e w' => e = .returned (.bool true) ∧ w' = w := by
  go_enter Tryz.func67, Tryz.ntmps67
  go_wp2
  refine wp_loop_rounds 1 ?_
  rw [rounds_succ]
  go_wp2
  go_ret
  exact ⟨rfl, rfl⟩
theorem sb_ext {l m : List Sb} (hl : l.length = m.length) (h : ∀ j, j < l.length → l.getD j sb0 = m.getD j sb0) : l = m := by
  apply List.ext_getElem hl
  intro i h1 h2
  have := h i h1
  rw [List.getD_eq_getElem?_getD, List.getD_eq_getElem?_getD, List.getElem?_eq_getElem h1, List.getElem?_eq_getElem h2] at this
  exact this
theorem eqb_any (va vb : Value) (l m : List Sb) (w : World) (ha : Sbs w va l) (hb : Sbs w vb m) (hmx : l.length ≤ 1000000000) :
    Calls Tryz.prog 67 #[va, vb] w fun e w' => (∃ b, e = .returned (.bool b) ∧ (b = true ↔ l = m)) ∧ ∃ k, w' = w.drewN k := by
  obtain ⟨ao, ca, rfl, _, ha⟩ := ha
  obtain ⟨bo, cb, rfl, _, hb⟩ := hb
  by_cases hl : l.length = m.length
  · rcases ha with rfl | ⟨ba, oa, rfl, hca⟩
    · obtain rfl : m = [] := List.length_eq_zero_iff.1 hl.symm
      refine (eqb_nil _ _ _ _ _).mono ?_
      rintro e w' ⟨rfl, rfl⟩
      exact ⟨⟨true, rfl, by simp⟩, 0, rfl⟩
    · rcases hb with rfl | ⟨bb, ob, rfl, hcb⟩
      · obtain rfl : l = [] := List.length_eq_zero_iff.1 hl
        refine (eqb_nil _ _ _ _ _).mono ?_
        rintro e w' ⟨rfl, rfl⟩
        exact ⟨⟨true, rfl, by simp⟩, 0, rfl⟩
      · rw [← hl]
        refine (eqb_core ba oa bb ob ca cb l m l.length w rfl hl.symm hmx hca hcb).mono ?_
        rintro e w' ⟨⟨b, rfl, hbb⟩, k, rfl⟩
        exact ⟨⟨b, rfl, hbb.trans ⟨fun h => sb_ext hl h, fun h j _ => by rw [h]⟩⟩, k, rfl⟩
  · refine (eqb_len ao bo l.length m.length ca cb w hl).mono ?_
    rintro e w' ⟨rfl, rfl⟩
    exact ⟨⟨false, rfl, by constructor; (intro h; cases h); (intro h; exact absurd (by rw [h]) hl)⟩, 0, rfl⟩
end Go.Proofs.YtoocdfgjkeheaaaGreatDoor.K
/- Proved here: dovecoteref0.EqNumbers tells whether two lists of numbers are one. Helper contract. -/
namespace Go.Proofs.YtoocdfgjkeheaaaGreatDoor.K
open Go.RowKit

/-- the value reads as the list -/
def Nms (w : World) (v : Value) (l : List Int) : Prop :=
  ∃ ao cap, v = .slice ao l.length cap ∧ (l.length ≤ cap ∧ cap ≤ maxLen) ∧ (l = [] ∨ ∃ b off, ao = some ⟨b, off, none⟩ ∧ ∀ j, j < l.length → w.cell? ⟨b, off + j, none⟩ = some (.int .i64 (l.getD j 0)))
theorem nms_of_owns {w : World} {B : Nat} {e : TypeId} {v : Value} {l : List Int} (h : w.ownsRow B e 1 v l.length (l.map (Value.int .i64))) : Nms w v l := by
  rcases h.2 with ⟨rfl, h1⟩ | ⟨g, cap, cur, rfl, hB, hg, h1, h2, h3, h4⟩
  · have : l = [] := List.length_eq_zero_iff.1 h1
    subst this
    exact ⟨none, 0, rfl, by simp, .inl rfl⟩
  · refine ⟨_, cap, rfl, ⟨h1, h2⟩, .inr ⟨g, 0, rfl, fun j hj => ?_⟩⟩
    rw [Nat.zero_add, h.cellAt j (by omega), List.getElem?_map, List.getElem?_eq_getElem hj, List.getD_eq_getElem?_getD, List.getElem?_eq_getElem hj]
    rfl
theorem eqn_len (ao bo : Option Addr) (n m ca cb : Nat) (w : World) (h : n ≠ m) :
    Calls Tryz.prog 68 #[.slice ao n ca, .slice bo m cb] w fun e w' => e = .returned (.bool false) ∧ w' = w := by
  have h1 : ((n : Int) == (m : Int)) = false := beq_eq_false_iff_ne.2 (by omega)
  go_enter Tryz.func68, Tryz.ntmps68
  go_wp2
  go_ret
  exact ⟨rfl, rfl⟩

theorem eqn_nil (ao bo : Option Addr) (ca cb : Nat) (w : World) :
    Calls Tryz.prog 68 #[.slice ao 0 ca, .slice bo 0 cb] w fun e w' => e = .returned (.bool true) ∧ w' = w := by
  go_enter Tryz.func68, Tryz.ntmps68
  go_wp2
  refine wp_loop_rounds 1 ?_
  rw [rounds_succ]
  go_wp2
  go_ret
  exact ⟨rfl, rfl⟩

set_option maxHeartbeats 1000000 in
theorem eqn_core (ba oa bb ob n ca cb : Nat) (f g : Nat → Int) (w : World) (hn : n ≤ maxLen)
    (hf : ∀ j, j < n → w.cell? ⟨ba, oa + j, none⟩ = some (.int .i64 (f j))) (hg : ∀ j, j < n → w.cell? ⟨bb, ob + j, none⟩ = some (.int .i64 (g j))) :
    Calls Tryz.prog 68 #[.slice (some ⟨ba, oa, none⟩) n ca, .slice (some ⟨bb, ob, none⟩) n cb] w fun e w' => (∃ b, e = .returned (.bool b) ∧ (b = true ↔ ∀ j, j < n → f j = g j)) ∧ ∃ k, w' = w.drewN k := by
  unfold maxLen at hn
  have HF := hide hf
  have HG := hide hg
  clear hf hg
  go_enter Tryz.func68, Tryz.ntmps68
  go_wp2
  go_loopw [5] (fun i wr => ∃ k q : Nat, k ≤ n ∧ i = .int .i64 k ∧ wr = w.drewN q ∧ ∀ j, j < k → f j = g j) (fun i _ => n - (intOf i).toNat)
  case atStart => exact ⟨0, 0, Nat.zero_le _, rfl, rfl, fun j hj => absurd hj (Nat.not_lt_zero j)⟩
  case round =>
    obtain ⟨k, q, hk, rfl, rfl, hall⟩ := hrel
    have HA := hide hall
    clear hall
    by_cases hlt : k < n
    · have hfk := (unhide HF) k hlt
      have hgk := (unhide HG) k hlt
      generalize hx : f k = x at hfk
      generalize hy : g k = y at hgk
      have HX := hide hx
      have HY := hide hy
      clear hx hy
      by_cases hxy : x = y
      · have hb : (x == y) = true := beq_iff_eq.2 hxy
        have HE := hide hxy
        clear hxy
        go_wp2
        go_quiet (fail)
        go_wp2
        go_roundw
        case rel => exact ⟨k + 1, _, by omega, by go_num, rfl, fun j hj => by
          rcases Nat.lt_succ_iff_lt_or_eq.1 hj with h | h
          · exact (unhide HA) j h
          · rw [h, unhide HX, unhide HY]; exact unhide HE⟩
        case measure => simp [intOf]; omega
      · have hb : (x == y) = false := beq_eq_false_iff_ne.2 hxy
        go_wp2
        go_quiet (fail)
        go_wp2
        go_ret
        refine ⟨⟨_, rfl, ?_⟩, q + nq, drewN_drewN _ _ _⟩
        constructor
        · intro h; cases h
        · intro h; exact absurd ((unhide HX).symm.trans ((h k hlt).trans (unhide HY))) hxy
    · go_wp2
      go_ret
      exact ⟨⟨_, rfl, fun _ j hj => (unhide HA) j (by omega), fun _ => rfl⟩, _, rfl⟩

theorem eqn_any (va vb : Value) (xs ys : List Int) (w : World) (ha : Nms w va xs) (hb : Nms w vb ys) :
    Calls Tryz.prog 68 #[va, vb] w fun e w' => e = .returned (.bool (decide (xs = ys))) ∧ ∃ k, w' = w.drewN k := by
  obtain ⟨ao, ca, rfl, hla, ha⟩ := ha
  obtain ⟨bo, cb, rfl, _, hb⟩ := hb
  by_cases hl : xs.length = ys.length
  · rcases ha with rfl | ⟨ba, oa, rfl, hca⟩
    · have hb0 : ys = [] := List.length_eq_zero_iff.1 hl.symm
      subst hb0
      refine (eqn_nil _ _ _ _ _).mono ?_
      rintro e w' ⟨rfl, rfl⟩
      exact ⟨by simp, 0, rfl⟩
    · rcases hb with rfl | ⟨bb, ob, rfl, hcb⟩
      · have ha0 : xs = [] := List.length_eq_zero_iff.1 hl
        subst ha0
        refine (eqn_nil _ _ _ _ _).mono ?_
        rintro e w' ⟨rfl, rfl⟩
        exact ⟨by simp, 0, rfl⟩
      · rw [← hl] at hcb ⊢
        refine (eqn_core ba oa bb ob xs.length ca cb (fun j => xs.getD j 0) (fun j => ys.getD j 0) w (Nat.le_trans hla.1 hla.2) hca hcb).mono ?_
        rintro e w' ⟨⟨b, rfl, hbb⟩, k, rfl⟩
        refine ⟨?_, k, rfl⟩
        have : (b = true) ↔ xs = ys := by
          rw [hbb]
          constructor
          · intro h
            apply List.ext_getElem hl
            intro i h1 h2
            have := h i h1
            rw [List.getD_eq_getElem?_getD, List.getD_eq_getElem?_getD, List.getElem?_eq_getElem h1, List.getElem?_eq_getElem h2] at this
            exact this
          · rintro rfl j _; rfl
        rw [show b = decide (xs = ys) from by rw [Bool.eq_iff_iff, this]; simp]
  · refine (eqn_len ao bo xs.length ys.length ca cb w hl).mono ?_
    rintro e w' ⟨rfl, rfl⟩
    refine ⟨?_, 0, rfl⟩
    rw [show decide (xs = ys) = false from decide_eq_false (fun h => hl (by rw [h]))]
end Go.Proofs.YtoocdfgjkeheaaaGreatDoor.K
/- Proved here: dovecoteref0.EqPacket tells true at two packets in memory that read as one packet. Helper contracts. -/
namespace Go.Proofs.YtoocdfgjkeheaaaGreatDoor.K
open Go.RowKit
set_option maxRecDepth 100000

theorem Nms.below {w w' : World} {v : Value} {l : List Int} (h : Nms w v l) (hb : Below w.heap.size w w') : Nms w' v l := by
  obtain ⟨ao, cap, h1, h2, h3⟩ := h
  refine ⟨ao, cap, h1, h2, ?_⟩
  rcases h3 with h3 | ⟨b, off, e, hc⟩
  · exact .inl h3
  · exact .inr ⟨b, off, e, fun j hj => (hb.cell (p := ⟨b, off + j, none⟩) (cell_lt (hc j hj))).trans (hc j hj)⟩
theorem Txs.below {w w' : World} {v : Value} {l : List ByteArray} (h : Txs w v l) (hb : Below w.heap.size w w') : Txs w' v l := by
  obtain ⟨ao, cap, h1, h2, h3⟩ := h
  refine ⟨ao, cap, h1, h2, ?_⟩
  rcases h3 with h3 | ⟨b, off, e, hc⟩
  · exact .inl h3
  · exact .inr ⟨b, off, e, fun j hj => (hb.cell (p := ⟨b, off + j, none⟩) (cell_lt (hc j hj))).trans (hc j hj)⟩
theorem Sbs.below {w w' : World} {v : Value} {l : List Sb} (h : Sbs w v l) (hb : Below w.heap.size w w') : Sbs w' v l := by
  obtain ⟨ao, cap, h1, h2, h3⟩ := h
  refine ⟨ao, cap, h1, h2, ?_⟩
  rcases h3 with h3 | ⟨b, off, e, hc⟩
  · exact .inl h3
  · refine .inr ⟨b, off, e, fun j hj => ?_⟩
    obtain ⟨x1, x2, x3, x4, x5⟩ := hc j hj
    have hl : b < w.heap.size := cell_lt x1
    exact ⟨(hb.cell hl).trans x1, (hb.cell hl).trans x2, (hb.cell hl).trans x3, (hb.cell hl).trans x4, (hb.cell hl).trans x5⟩
theorem Wls.below {w w' : World} {v : Value} {l : List Wl} (h : Wls w v l) (hb : Below w.heap.size w w') : Wls w' v l := by
  obtain ⟨ao, cap, h1, h2, h3⟩ := h
  refine ⟨ao, cap, h1, h2, ?_⟩
  rcases h3 with h3 | ⟨b, off, e, hc⟩
  · exact .inl h3
  · exact .inr ⟨b, off, e, fun j hj => (hc j hj).below hb⟩

theorem tells_props {w : World} {va vb : Value} {l m : List Pr} (ha : Prp w va l) (hb : Prp w vb m) (hmx : l.length ≤ 1000000000) (c : Bool) (hc : c = true ↔ l = m) : Tells w 64 va vb c := fun W hW => by
  refine (eqp_any va vb l m W (ha.below hW) (hb.below hW) hmx).mono ?_
  rintro e w' ⟨⟨b, rfl, hbb⟩, k, rfl⟩
  obtain rfl : b = c := Bool.eq_iff_iff.2 (hbb.trans hc.symm)
  exact ⟨rfl, below_drewN (Below.refl _ _) k⟩
theorem tells_subs {w : World} {va vb : Value} {l m : List Sb} (ha : Sbs w va l) (hb : Sbs w vb m) (hmx : l.length ≤ 1000000000) (c : Bool) (hc : c = true ↔ l = m) : Tells w 67 va vb c := fun W hW => by
  refine (eqb_any va vb l m W (ha.below hW) (hb.below hW) hmx).mono ?_
  rintro e w' ⟨⟨b, rfl, hbb⟩, k, rfl⟩
  obtain rfl : b = c := Bool.eq_iff_iff.2 (hbb.trans hc.symm)
  exact ⟨rfl, below_drewN (Below.refl _ _) k⟩
theorem tells_wills {w : World} {va vb : Value} {l m : List Wl} (ha : Wls w va l) (hb : Wls w vb m) (hmx : l.length ≤ 1000000000) (c : Bool) (hc : c = true ↔ l = m) : Tells w 65 va vb c := fun W hW => by
  refine (eqws_any va vb l m W (ha.below hW) (hb.below hW) hmx).mono ?_
  rintro e w' ⟨⟨b, rfl, hbb⟩, hb'⟩
  obtain rfl : b = c := Bool.eq_iff_iff.2 (hbb.trans hc.symm)
  exact ⟨rfl, hb'⟩
theorem tells_strs {w : World} {va vb : Value} {l m : List ByteArray} (ha : Txs w va l) (hb : Txs w vb m) (c : Bool) (hc : c = true ↔ l = m) : Tells w 66 va vb c := fun W hW => by
  refine (eqs_any va vb l m W (ha.below hW) (hb.below hW)).mono ?_
  rintro e w' ⟨rfl, k, rfl⟩
  exact ⟨by rw [show c = decide (l = m) from Bool.eq_iff_iff.2 (hc.trans (decide_eq_true_iff).symm)], below_drewN (Below.refl _ _) k⟩
theorem tells_nums {w : World} {va vb : Value} {l m : List Int} (ha : Nms w va l) (hb : Nms w vb m) (c : Bool) (hc : c = true ↔ l = m) : Tells w 68 va vb c := fun W hW => by
  refine (eqn_any va vb l m W (ha.below hW) (hb.below hW)).mono ?_
  rintro e w' ⟨rfl, k, rfl⟩
  exact ⟨by rw [show c = decide (l = m) from Bool.eq_iff_iff.2 (hc.trans (decide_eq_true_iff).symm)], below_drewN (Below.refl _ _) k⟩

/-- a packet in memory that reads so -/
structure RPk (w : World) (p : Pkv) (P : Pa) : Prop where
  sc : p.kind = P.kind ∧ p.dup = P.dup ∧ p.qos = P.qos ∧ p.retain = P.retain ∧ p.topic = P.topic ∧ p.id = P.id ∧ p.payload = P.payload ∧ p.client = P.client ∧ p.clean = P.clean ∧ p.keep = P.keep ∧ p.code = P.code ∧ p.session = P.session
  props : Prp w p.props.val P.props
  wills : Wls w p.wills.val P.wills
  user : Txs w p.user.val P.user
  pass : Txs w p.pass.val P.pass
  subs : Sbs w p.subs.val P.subs
  filters : Txs w p.filters.val P.filters
  codes : Nms w p.codes.val P.codes
theorem RPk.below {w w' : World} {p : Pkv} {P : Pa} (h : RPk w p P) (hb : Below w.heap.size w w') : RPk w' p P :=
  ⟨h.sc, h.props.below hb, h.wills.below hb, h.user.below hb, h.pass.below hb, h.subs.below hb, h.filters.below hb, h.codes.below hb⟩
/-- lists of no great length -/
structure Small (P : Pa) : Prop where
  props : P.props.length ≤ 1000000000
  wills : P.wills.length ≤ 1000000000
  subs : P.subs.length ≤ 1000000000
theorem eqpk_same (p q : Pkv) (P : Pa) (w : World) (hp : RPk w p P) (hq : RPk w q P) (hs : Small P) :
    Calls Tryz.prog 30 #[p.val, q.val] w fun e w' => e = .returned (.bool true) ∧ Below w.heap.size w w' := by
  obtain ⟨x0, x1, x2, x3, x4, x5, x6, x7, x8, x9, x10, x11⟩ := hp.sc
  obtain ⟨y0, y1, y2, y3, y4, y5, y6, y7, y8, y9, y10, y11⟩ := hq.sc
  exact eqpk_yes _ _ _ _ _ _ _ _ _ _ _ _ _ _ _ _ _ _ _ _ _ _ _ _ _ _ _ _ _ _ _ _ _ _ _ _ _ _ w
    (by rw [x0, y0]; simp) (by rw [x1, y1]; simp) (by rw [x2, y2]; simp) (by rw [x3, y3]; simp) (by rw [x4, y4]; simp) (by rw [x5, y5]; simp) (by rw [x6, y6]; simp)
    (tells_props hp.props hq.props hs.props true (by simp)) (by rw [x7, y7]; simp) (by rw [x8, y8]; simp) (by rw [x9, y9]; simp) (tells_wills hp.wills hq.wills hs.wills true (by simp))
    (tells_strs hp.user hq.user true (by simp)) (tells_strs hp.pass hq.pass true (by simp)) (by rw [x10, y10]; simp) (by rw [x11, y11]; simp) (tells_subs hp.subs hq.subs hs.subs true (by simp)) (tells_strs hp.filters hq.filters true (by simp)) (tells_nums hp.codes hq.codes true (by simp))
end Go.Proofs.YtoocdfgjkeheaaaGreatDoor.K
/- Proved here: dovecoteref0.EqPackets tells true at two rows of packets that read as the same. Helper contract. -/
namespace Go.Proofs.YtoocdfgjkeheaaaGreatDoor.K
open Go.RowKit
set_option maxRecDepth 100000

theorem range_below {w w' : World} {b o : Nat} {cs : List Value} (h : w.rangeAt b o cs) (hb : Below w.heap.size w w') : w'.rangeAt b o cs := fun j v hj => (hb.cell (p := ⟨b, o + j, none⟩) (cell_lt (h j v hj))).trans (h j v hj)
set_option maxHeartbeats 4000000 in
theorem eqpks_same (ba oa bb ob n ca cb : Nat) (ps qs : Nat → Pkv) (Ps : Nat → Pa) (w : World) (hn : n ≤ 1000000000)
    (hp : ∀ k, k < n → w.rangeAt ba (oa + k * 19) (ps k).cells ∧ RPk w (ps k) (Ps k)) (hq : ∀ k, k < n → w.rangeAt bb (ob + k * 19) (qs k).cells ∧ RPk w (qs k) (Ps k)) (hs : ∀ k, k < n → Small (Ps k)) :
    Calls Tryz.prog 44 #[.slice (some ⟨ba, oa, none⟩) n ca, .slice (some ⟨bb, ob, none⟩) n cb] w fun e w' => e = .returned (.bool true) ∧ Below w.heap.size w w' := by
  have HP := hide hp
  have HQ := hide hq
  have HS := hide hs
  clear hp hq hs
  go_enter Tryz.func44, Tryz.ntmps44
  go_wp2
  go_loopw [5] (fun i wr => ∃ k : Nat, k ≤ n ∧ i = .int .i64 k ∧ Hid (Below w.heap.size w wr)) (fun i _ => n - (intOf i).toNat)
  case atStart => exact ⟨0, Nat.zero_le _, rfl, Below.refl _ _⟩
  case round =>
    obtain ⟨k, hk, rfl, HBEL⟩ := hrel
    by_cases hlt : k < n
    · obtain ⟨hr, hu⟩ := (unhide HP) k hlt
      obtain ⟨hr', hv⟩ := (unhide HQ) k hlt
      have HSM := hide ((unhide HS) k hlt)
      generalize ps k = u at hr hu
      generalize qs k = v at hr' hv
      generalize Ps k = P at hu hv HSM
      have HU := hide (hu.below (unhide HBEL))
      have HV := hide (hv.below (unhide HBEL))
      have hr1 := range_below hr (unhide HBEL)
      have hr2 := range_below hr' (unhide HBEL)
      have HK : Hid (∀ W, Below wr.heap.size wr W → W.rangeAt ba (oa + k * 19) u.cells ∧ W.rangeAt bb (ob + k * 19) v.cells) := fun W hW => ⟨range_below hr1 hW, range_below hr2 hW⟩
      clear hr hr' hu hv hr1 hr2
      go_wp2_with fail
      refine wp_region_noPanic ?_
      refine wp_region_held_drew (S := (fun W => W.rangeAt ba (oa + k * 19) u.cells ∧ W.rangeAt bb (ob + k * 19) v.cells)) (by kernel_rfl) ((unhide HK) _ (below_drewN (Below.refl _ _) 1)) (fun hHeld => ?_)
      refine wpAnyH_take (i := 0) (oi := { dst := some 17, op := Op.move (Operand.tmp 0), type := 61, pos := "help.go:274", after := #[], guard := none }) (v := ?v1) rfl (by kernel_rfl) (by kernel_rfl) (by kernel_rfl) (fun _ _ _ h => h) (Or.inl ⟨by rfl, ?hy1⟩) (by assumption) ?rest1
      case hy1 => (intro w hSw; (try dsimp only at hSw); go_simp; (try rw [if_pos (by omega)]); (try with_reducible rfl))
      simp only [Act.put, List.setIfInBounds_toArray, List.set_cons_zero, List.set_cons_succ]
      refine wpAnyH_take (i := 1) (oi := { dst := some 18, op := Op.move (Operand.tmp 5), type := 3, pos := "help.go:274", after := #[], guard := none }) (v := ?v2) rfl (by kernel_rfl) (by kernel_rfl) (by kernel_rfl) (fun _ _ _ h => h) (Or.inl ⟨by rfl, ?hy2⟩) (by assumption) ?rest2
      case hy2 => (intro w hSw; (try dsimp only at hSw); go_simp; (try rw [if_pos (by omega)]); (try with_reducible rfl))
      simp only [Act.put, List.setIfInBounds_toArray, List.set_cons_zero, List.set_cons_succ]
      refine wpAnyH_take (i := 2) (oi := { dst := some 19, op := Op.indexAddr 61 (Operand.tmp 17) (Operand.tmp 18), type := 0, pos := "help.go:274", after := #[{ on := 0, ground := Ground.data }, { on := 1, ground := Ground.data }], guard := none }) (v := ?v3) rfl (by kernel_rfl) (by kernel_rfl) (by kernel_rfl) (fun _ _ _ h => h) (Or.inl ⟨by rfl, ?hy3⟩) (by assumption) ?rest3
      case hy3 => (intro w hSw; (try dsimp only at hSw); go_simp; (try rw [if_pos (by omega)]); (try with_reducible rfl))
      simp only [Act.put, List.setIfInBounds_toArray, List.set_cons_zero, List.set_cons_succ]
      refine wpAnyH_take (i := 3) (oi := { dst := some 20, op := Op.load 30 (Operand.tmp 19), type := 30, pos := "help.go:274", after := #[{ on := 2, ground := Ground.data }], guard := none }) (v := u.val) rfl (by kernel_rfl) (by kernel_rfl) (by kernel_rfl) (fun _ _ _ h => h) (yieldsIf_load_mid (by rfl) 30 _ rfl ba (oa + k * 19) rfl u.cells _ (fun _ h => h.1) Tryz.underlying30 rfl packet_size) (by assumption) ?_
      simp only [Act.put, List.setIfInBounds_toArray, List.set_cons_zero, List.set_cons_succ]
      refine wpAnyH_take (i := 4) (oi := { dst := some 21, op := Op.move (Operand.tmp 1), type := 61, pos := "help.go:274", after := #[], guard := none }) (v := ?v4) rfl (by kernel_rfl) (by kernel_rfl) (by kernel_rfl) (fun _ _ _ h => h) (Or.inl ⟨by rfl, ?hy4⟩) (by assumption) ?rest4
      case hy4 => (intro w hSw; (try dsimp only at hSw); go_simp; (try rw [if_pos (by omega)]); (try with_reducible rfl))
      simp only [Act.put, List.setIfInBounds_toArray, List.set_cons_zero, List.set_cons_succ]
      refine wpAnyH_take (i := 5) (oi := { dst := some 22, op := Op.move (Operand.tmp 5), type := 3, pos := "help.go:274", after := #[], guard := none }) (v := ?v5) rfl (by kernel_rfl) (by kernel_rfl) (by kernel_rfl) (fun _ _ _ h => h) (Or.inl ⟨by rfl, ?hy5⟩) (by assumption) ?rest5
      case hy5 => (intro w hSw; (try dsimp only at hSw); go_simp; (try rw [if_pos (by omega)]); (try with_reducible rfl))
      simp only [Act.put, List.setIfInBounds_toArray, List.set_cons_zero, List.set_cons_succ]
      refine wpAnyH_take (i := 6) (oi := { dst := some 23, op := Op.indexAddr 61 (Operand.tmp 21) (Operand.tmp 22), type := 0, pos := "help.go:274", after := #[{ on := 4, ground := Ground.data }, { on := 5, ground := Ground.data }], guard := none }) (v := ?v6) rfl (by kernel_rfl) (by kernel_rfl) (by kernel_rfl) (fun _ _ _ h => h) (Or.inl ⟨by rfl, ?hy6⟩) (by assumption) ?rest6
      case hy6 => (intro w hSw; (try dsimp only at hSw); go_simp; (try rw [if_pos (by omega)]); (try with_reducible rfl))
      simp only [Act.put, List.setIfInBounds_toArray, List.set_cons_zero, List.set_cons_succ]
      refine wpAnyH_take (i := 7) (oi := { dst := some 24, op := Op.load 30 (Operand.tmp 23), type := 30, pos := "help.go:274", after := #[{ on := 6, ground := Ground.data }], guard := none }) (v := v.val) rfl (by kernel_rfl) (by kernel_rfl) (by kernel_rfl) (fun _ _ _ h => h) (yieldsIf_load_mid (by rfl) 30 _ rfl bb (ob + k * 19) rfl v.cells _ (fun _ h => h.2) Tryz.underlying30 rfl packet_size) (by assumption) ?_
      simp only [Act.put, List.setIfInBounds_toArray, List.set_cons_zero, List.set_cons_succ]
      refine wpAnyH_ready (rs := [8]) (by kernel_rfl) (by simp) ?_
      refine AllReadyH.cons (o := { dst := some 25, op := Op.call { callee := Callee.value (Operand.func 30), args := #[Operand.tmp 20, Operand.tmp 24], argTypes := #[30, 30] }, type := 4, pos := "help.go:274", after := #[{ on := 3, ground := Ground.data }, { on := 7, ground := Ground.data }], guard := none }) rfl (fun K hK => ?_) AllReadyH.nil
      go_simp
      refine (eqpk_same u v P _ ((unhide HU).below (below_drewN (Below.refl _ _) 1)) ((unhide HV).below (below_drewN (Below.refl _ _) 1)) (unhide HSM)).mono ?_
      rintro e w2 ⟨rfl, hb2⟩
      have HB2 : Hid (Below wr.heap.size wr w2) := (below_drewN (Below.refl _ _) 1).trans hb2
      clear hb2
      refine hK.out _ _ ((unhide HK) _ (unhide HB2)) (fun hHeld => ?_)
      clear hK K
      refine wpAnyH_take (i := 9) (oi := { dst := some 26, op := Op.unOp UnOp.not 4 (Operand.tmp 25), type := 4, pos := "help.go:274", after := #[{ on := 8, ground := Ground.data }], guard := none }) (v := ?v7) rfl (by kernel_rfl) (by kernel_rfl) (by kernel_rfl) (fun _ _ _ h => h) (Or.inl ⟨by rfl, ?hy7⟩) (by assumption) ?rest7
      case hy7 => (intro w hSw; (try dsimp only at hSw); go_simp; (try rw [if_pos (by omega)]); (try with_reducible rfl))
      simp only [Act.put, List.setIfInBounds_toArray, List.set_cons_zero, List.set_cons_succ]
      refine wpAnyH_done (by kernel_rfl) ?_ _
      refine NoPanic.normal ?_
      have HB3 : Hid (Below w.heap.size w w2) := (unhide HBEL).trans ((unhide HB2).mono (unhide HBEL).size)
      go_wp2
      go_roundw
      case rel => exact ⟨k + 1, by omega, by go_num, HB3⟩
      case measure => simp [intOf]; omega
    · go_wp2
      go_ret
      exact ⟨rfl, unhide HBEL⟩
end Go.Proofs.YtoocdfgjkeheaaaGreatDoor.K
/- Proved here: plain facts on the bytes that the statement StreamLimits feeds. No function is named. -/
namespace Go.Proofs.YtoocdfgjkeheaaaGreatDoor.K
open Go.RowKit
set_option maxRecDepth 100000

theorem srun_stop {lim : Int} {l : List Int} {Ps : List Pa} {n : Nat} {m k : Int} (h : SRun lim l Ps n m) (hk : snum lim l = k) (h0 : k ≠ 0) : Ps = [] ∧ n = 0 ∧ m = k := by
  cases h with
  | stop _ _ => exact ⟨rfl, rfl, hk⟩
  | step _ _ _ _ _ _ hz _ _ => exact absurd (hk.symm.trans hz) h0
theorem srun_step {lim : Int} {l r : List Int} {P : Pa} {Ps : List Pa} {n : Nat} {m : Int} (h : SRun lim l Ps n m) (hk : snum lim l = 0) (hd : dbody l = some (P, r)) : ∃ Qs k, Ps = P :: Qs ∧ n = (meas l).2.1 + k ∧ SRun lim (l.drop (meas l).2.1) Qs k m := by
  cases h with
  | stop _ hz => exact absurd hk hz
  | step _ P' r' Qs k e _ hd' hr =>
    rw [hd] at hd'
    simp only [Option.some.injEq, Prod.mk.injEq] at hd'
    obtain ⟨rfl, rfl⟩ := hd'
    exact ⟨Qs, k, rfl, rfl, hr⟩
def pingP : Pa := pa0 12 false 0 false
theorem ping1 : snum 100 [192] = 3 := by decide +kernel
theorem ping2 : snum 100 [192, 0] = 0 := by decide +kernel
theorem ping3 : dbody [192, 0] = some (pingP, []) := by kernel_rfl
theorem ping4 : (meas [192, 0]).2.1 = 2 := by decide +kernel
theorem end3 (lim : Int) (h : 2 ≤ lim) : snum lim [] = 3 := by
  unfold snum
  rw [if_pos (by have : (smeas []).2 ≤ 2 := by decide +kernel
                 omega)]
  decide +kernel
/-- a publish with n zeros as its payload -/
def pubL (n : Nat) : List Int := 48 :: ((n : Int) + 4) :: 0 :: 1 :: 97 :: 0 :: List.replicate n 0
def pubT (n : Nat) : Bool := decide (snum ((n : Int) + 6) (pubL n) = 0) && (decide ((meas (pubL n)).2.1 = n + 6) && (match dbody (pubL n) with | some (P, _) => decide (P.payload.size = n) | none => false))
theorem pubAll : (List.range 54).all pubT = true := by kernel_rfl
theorem pub_facts (n : Nat) (h : n < 54) : snum ((n : Int) + 6) (pubL n) = 0 ∧ (meas (pubL n)).2.1 = n + 6 ∧ ∃ P r, dbody (pubL n) = some (P, r) ∧ P.payload.size = n := by
  have := List.all_eq_true.1 pubAll n (List.mem_range.2 h)
  unfold pubT at this
  simp only [Bool.and_eq_true, decide_eq_true_eq] at this
  obtain ⟨h1, h2, h3⟩ := this
  refine ⟨h1, h2, ?_⟩
  cases hd : dbody (pubL n) with
  | none => rw [hd] at h3; cases h3
  | some q =>
    obtain ⟨P, r⟩ := q
    rw [hd] at h3
    exact ⟨P, r, rfl, of_decide_eq_true h3⟩
theorem pub_len (n : Nat) : (pubL n).length = n + 6 := by simp [pubL]
/-- the first two bytes of a packet of one byte more than the limit -/
def limT (k : Nat) : Bool := decide (snum ((k : Int) + 1) [48, (k : Int)] = 2)
theorem limAll : ((List.range 58).drop 1).all limT = true := by kernel_rfl
theorem lim_facts (k : Nat) (h1 : 1 ≤ k) (h2 : k < 58) : snum ((k : Int) + 1) [48, (k : Int)] = 2 := by
  have hm : k ∈ (List.range 58).drop 1 := by
    rw [List.mem_drop_iff_getElem]
    exact ⟨k - 1, by simp; omega, by simp; omega⟩
  exact of_decide_eq_true (List.all_eq_true.1 limAll k hm)
end Go.Proofs.YtoocdfgjkeheaaaGreatDoor.K
/- Proved here: dovecotelaw5's num and wakes. Helper contracts. -/
namespace Go.Proofs.YtoocdfgjkeheaaaGreatDoor.K
open Go.RowKit
set_option maxRecDepth 100000

theorem num5 (v : Value) (n : Int) (w : World) (hg : Laid w) (hv : ErrX w v n) : Calls Tryz.prog 43 #[v] w fun e w' => e = .returned (.int .i64 n) ∧ Below w.heap.size w w' := by
  have HG := hide hg
  have HV := hide hv
  clear hg hv
  go_enter Tryz.func43, Tryz.ntmps43
  go_wp2_with (go_at_call 63; refine (numx v n _ (unhide HG) (unhide HV)).mono ?_; rintro e w' ⟨rfl, hb⟩)
  go_ret
  exact ⟨rfl, hb⟩
theorem num5_nil (w : World) : Calls Tryz.prog 43 #[.nilIface] w fun e w' => e = .returned (.int .i64 0) ∧ w' = w := by
  go_enter Tryz.func43, Tryz.ntmps43
  go_wp2_with (go_at_call 63; refine (num_nil _).mono ?_; rintro e w' ⟨rfl, rfl⟩)
  go_ret
  exact ⟨rfl, rfl⟩
theorem own0 {w : World} {B : Nat} {e : TypeId} {s : Nat} {v : Value} (h : w.ownsRow B e s v 0 []) : ∃ ao cap, v = .slice ao 0 cap ∧ cap ≤ maxLen := by
  rcases h.2 with ⟨rfl, _⟩ | ⟨g, cap, cur, rfl, _, _, _, h2, _⟩
  · exact ⟨none, 0, rfl, by simp⟩
  · exact ⟨_, cap, rfl, h2⟩
/-- a packet without lists -/
theorem rpk_none {w : World} {B : Nat} {q : Pkv} {k : Int} {d : Bool} {x : Int} {r : Bool} (h : Mean w B q (pa0 k d x r)) : RPk w q (pa0 k d x r) := by
  refine ⟨h.sc, ?_, ?_, ?_, ?_, ?_, ?_, ?_⟩
  · obtain ⟨ao, cap, e, hc⟩ := own0 h.props; exact ⟨ao, cap, e, .inl rfl⟩
  · obtain ⟨ws, h1, h2, h3⟩ := h.wills
    have : ws = [] := List.length_eq_zero_iff.1 h2
    subst this
    obtain ⟨ao, cap, e, hc⟩ := own0 h1; exact ⟨ao, cap, e, ⟨Nat.zero_le _, hc⟩, .inl rfl⟩
  · obtain ⟨ao, cap, e, hc⟩ := own0 h.user; exact ⟨ao, cap, e, ⟨Nat.zero_le _, hc⟩, .inl rfl⟩
  · obtain ⟨ao, cap, e, hc⟩ := own0 h.pass; exact ⟨ao, cap, e, ⟨Nat.zero_le _, hc⟩, .inl rfl⟩
  · obtain ⟨ao, cap, e, hc⟩ := own0 h.subs; exact ⟨ao, cap, e, ⟨Nat.zero_le _, hc⟩, .inl rfl⟩
  · obtain ⟨ao, cap, e, hc⟩ := own0 h.filters; exact ⟨ao, cap, e, ⟨Nat.zero_le _, hc⟩, .inl rfl⟩
  · obtain ⟨ao, cap, e, hc⟩ := own0 h.codes; exact ⟨ao, cap, e, ⟨Nat.zero_le _, hc⟩, .inl rfl⟩
theorem rpk_zero (w : World) (k : Int) (d : Bool) (x : Int) (r : Bool) : RPk w (pk0 k d x r) (pa0 k d x r) :=
  ⟨⟨rfl, rfl, rfl, rfl, rfl, rfl, rfl, rfl, rfl, rfl, rfl, rfl⟩, ⟨none, 0, rfl, .inl rfl⟩, ⟨none, 0, rfl, ⟨Nat.le_refl _, by simp⟩, .inl rfl⟩, ⟨none, 0, rfl, ⟨Nat.le_refl _, by simp⟩, .inl rfl⟩, ⟨none, 0, rfl, ⟨Nat.le_refl _, by simp⟩, .inl rfl⟩, ⟨none, 0, rfl, ⟨Nat.le_refl _, by simp⟩, .inl rfl⟩, ⟨none, 0, rfl, ⟨Nat.le_refl _, by simp⟩, .inl rfl⟩, ⟨none, 0, rfl, ⟨Nat.le_refl _, by simp⟩, .inl rfl⟩⟩
/-- a new stream -/
theorem str_new (w : World) (lim : Int) : Str (w.alloc (.cells #[.int .i64 lim, .slice none 0 0, .int .i64 0] 115)) w.heap.size lim 0 (.slice none 0 0) [] :=
  ⟨by simp, by simp, by simp, by simp, by simp, World.ownsRow_nil _ _ _ _, fun j => by simp⟩
theorem one_byt (x : Int) (h : 0 ≤ x ∧ x ≤ 255) (w : World) : Byt (w.alloc (.cells #[.int .u8 x] 5)) (.slice (some ⟨w.heap.size, 0, none⟩) 1 1) [x] := by
  refine ⟨_, 1, rfl, ⟨by simp, by unfold maxLen; simp⟩, ?_, .inr ⟨w.heap.size, 0, rfl, ?_⟩⟩
  · intro j; rcases j with _ | j <;> simp [h]
  · intro j hj; rcases j with _ | j
    · simp
    · simp at hj
/-- nothing below the stream has turned -/
theorem FB.bel {B S : Nat} {row : Option Nat} {w0 w w' : World} (h : FB S row w w') (hb : Below B w0 w) (hB : B ≤ w.heap.size) (hS : B ≤ S) (hr : ∀ g, row = some g → B ≤ g) : Below B w0 w' :=
  ⟨h.os.trans hb.os, h.tape.trans hb.tape, h.output.trans hb.output, Nat.le_trans hb.size h.size, fun k hk => (h.block k (by omega) (by omega) (fun e => by have := hr k e.symm; omega)).trans (hb.block k hk)⟩
set_option maxHeartbeats 2000000 in
theorem wakes5 (w : World) (hg : Laid w) : Calls Tryz.prog 47 #[] w fun e w' => e = .returned (.bool true) ∧ Below w.heap.size w w' := by
  have hsl : slim 100 = 100 := by decide
  have HN := hide (snew_any 100 w)
  rw [hsl] at HN
  have HG := hide hg
  clear hsl hg
  go_enter Tryz.func47, Tryz.ntmps47
  go_wp2_with fail
  refine (unhide HN).mono ?_
  rintro e w1 ⟨rfl, hw1⟩
  have HS1 : Hid (Str w1 w.heap.size 100 0 (.slice none 0 0) []) := by rw [hw1]; exact str_new w 100
  have HB1 : Hid (Below w.heap.size w w1) := by rw [hw1]; exact (Below.refl _ _).alloc (Nat.le_refl _) _
  clear hw1 HN
  have hs1 : w.heap.size ≤ w1.heap.size := (unhide HB1).size
  have HS2 := hide ((unhide HS1).below (w' := w1.alloc (.cells #[.int .u8 192] 5)) ((Below.refl _ _).alloc (Nat.le_refl _) _))
  have HB2 : Hid (Below w.heap.size w (w1.alloc (.cells #[.int .u8 192] 5))) := (unhide HB1).alloc hs1 _
  have HY2 := hide (one_byt 192 (by decide) w1)
  have HG2 := hide ((unhide HG).below (unhide HB2) (unhide HG).pos)
  clear HS1
  go_wp2_with fail
  refine (sfeed_ok w.heap.size 100 (.slice none 0 0) [] _ [192] _ (unhide HG2) (unhide HS2) (unhide HY2) (by decide) (by decide)).mono ?_
  rintro e w3 ⟨v3, E3, qs3, Ps3, n3, m3, hv3, rfl, -, hrun3, -, hpk3, hres3, hown3, hfb3⟩
  obtain ⟨rfl, rfl, rfl⟩ := srun_stop (l := [192]) hrun3 ping1 (by decide)
  obtain ⟨rfl, hst3⟩ : E3 = .nilIface ∧ Str w3 w.heap.size 100 0 hv3 [192] := by
    rcases hres3 with ⟨_, h1, h2⟩ | ⟨h1, _⟩
    · exact ⟨h1, h2⟩
    · exact absurd rfl h1
  obtain ⟨ao3, cap3, rfl, -⟩ := own0 (by have h := hpk3.row; have hl := hpk3.len; simp at hl; subst hl; exact h)
  have HB3 : Hid (Below w.heap.size w w3) := hfb3.bel (unhide HB2) (unhide HB2).size (Nat.le_refl _) (fun g e => by cases e)
  have HG3 := hide ((unhide HG).below (unhide HB3) (unhide HG).pos)
  have HS3 := hide hst3
  have HR3 := hide (owns_blk hst3.row)
  clear hrun3 hpk3 hres3 hown3 hfb3 hst3 HS2 HB2 HY2 HG2
  have hs3 : w.heap.size ≤ w3.heap.size := (unhide HB3).size
  have HS4 := hide ((unhide HS3).below (w' := w3.alloc (.cells #[.int .u8 0] 5)) ((Below.refl _ _).alloc (Nat.le_refl _) _))
  have HB4 : Hid (Below w.heap.size w (w3.alloc (.cells #[.int .u8 0] 5))) := (unhide HB3).alloc hs3 _
  have HY4 := hide (one_byt 0 (by decide) w3)
  have HG4 := hide ((unhide HG).below (unhide HB4) (unhide HG).pos)
  clear HS3 HB3 HG3
  go_wp2_with fail
  refine (sfeed_ok w.heap.size 100 hv3 [192] _ [0] _ (unhide HG4) (unhide HS4) (unhide HY4) (by decide) (by decide)).mono ?_
  rintro e w5 ⟨v5, E5, qs5, Ps5, n5, m5, hv5, rfl, -, hrun5, -, hpk5, hres5, -, hfb5⟩
  obtain ⟨Qs, k5, rfl, rfl, hrun6⟩ := srun_step (l := [192, 0]) hrun5 ping2 ping3
  rw [ping4] at hrun6 hres5
  obtain ⟨rfl, rfl, rfl⟩ := srun_stop (l := []) hrun6 (end3 100 (by decide)) (by decide)
  obtain ⟨rfl, hst5⟩ : E5 = .nilIface ∧ Str w5 w.heap.size 100 0 hv5 [] := by
    rcases hres5 with ⟨_, h1, h2⟩ | ⟨h1, _⟩
    · exact ⟨h1, h2⟩
    · exact absurd rfl h1
  obtain ⟨q, rfl⟩ : ∃ q, qs5 = [q] := List.length_eq_one_iff.1 hpk5.len
  have hmean := hpk5.mean 0 q pingP rfl rfl
  have HB5 : Hid (Below w.heap.size w w5) := hfb5.bel (unhide HB4) (unhide HB4).size (Nat.le_refl _) (fun g e => by have := (unhide HR3) g e; omega)
  have HG5 := hide ((unhide HG).below (unhide HB5) (unhide HG).pos)
  obtain ⟨g5, cap5, rfl, hr5⟩ : ∃ g cap, v5 = .slice (some ⟨g, 0, none⟩) 1 cap ∧ w5.rangeAt g 0 q.cells := by
    have hrow := hpk5.row
    rcases hrow.2 with ⟨_, h0⟩ | ⟨g, cap, cur, rfl, _⟩
    · simp at h0
    · refine ⟨g, cap, rfl, fun j v hj => ?_⟩
      have hj19 : j < 19 := by
        rcases Nat.lt_or_ge j 19 with h | h
        · exact h
        · rw [List.getElem?_eq_none (by show 19 ≤ j; exact h)] at hj; cases hj
      have := hrow.cellAt j (by simp; omega)
      rw [Nat.zero_add]
      rw [this]
      simpa using hj
  obtain ⟨aoh, caph, rfl, -⟩ := own0 hst5.row
  have HQ := hide (rpk_none hmean)
  have HR := hide hr5
  have c1 := hst5.c1
  have hSl : w.heap.size < w5.heap.size := cell_lt hst5.c0
  clear hrun5 hrun6 hpk5 hres5 hfb5 hst5 hmean hr5 HS4 HB4 HY4 HG4 HR3 hs3
  have HEQ : Hid (∀ W, Below w5.heap.size w5 W → W.rangeAt w5.heap.size 0 (pk0 12 false 0 false).cells → Calls Tryz.prog 44 #[.slice (some ⟨g5, 0, none⟩) 1 cap5, .slice (some ⟨w5.heap.size, 0, none⟩) 1 1] W fun e w' => e = .returned (.bool true) ∧ Below W.heap.size W w') := fun W hW hr =>
    eqpks_same g5 0 w5.heap.size 0 1 cap5 1 (fun _ => q) (fun _ => pk0 12 false 0 false) (fun _ => pingP) W (by decide)
      (fun k hk => by obtain rfl : k = 0 := by omega
                      exact ⟨range_below (unhide HR) hW, (unhide HQ).below hW⟩)
      (fun k hk => by obtain rfl : k = 0 := by omega
                      exact ⟨hr, rpk_zero W 12 false 0 false⟩)
      (fun k _ => ⟨by decide, by decide, by decide⟩)
  go_wp2_with (first | (go_at_call 43; refine (num5_nil _).mono ?_; rintro e w6 ⟨rfl, hw6⟩; obtain rfl := hw6.symm; clear hw6))
  have HR6 := hide (pk_new w5 (pk0 12 false 0 false)).range
  refine ((unhide HEQ) _ ((Below.refl _ _).alloc (Nat.le_refl _) _) (unhide HR6)).mono ?_
  rintro e w7 ⟨rfl, hb7⟩
  have HB7 : Hid (Below w5.heap.size w5 w7) := Below.trans ((Below.refl _ _).alloc (Nat.le_refl _) _) (hb7.mono (by simp))
  have c7 : w7.cell? ⟨w.heap.size, 1, none⟩ = some (.slice aoh 0 caph) := ((unhide HB7).cell (p := ⟨w.heap.size, 1, none⟩) hSl).trans c1
  clear hb7 HEQ HR6 HR HQ c1
  go_wp2_with (first | (go_at_call 45; refine (sheld_any w.heap.size aoh 0 caph _ c7).mono ?_; rintro e w8 ⟨rfl, hw8⟩; obtain rfl := hw8.symm; clear hw8))
  go_ret
  exact ⟨rfl, (unhide HB5).trans ((unhide HB7).mono (unhide HB5).size)⟩
end Go.Proofs.YtoocdfgjkeheaaaGreatDoor.K
/- Proved here: append(two bytes, make([]byte, n)...) at n = 0, 1, 2. Helpers. -/
namespace Go.Proofs.YtoocdfgjkeheaaaGreatDoor.K
open Go.RowKit
set_option maxRecDepth 100000

theorem wpList_append_run (w : World) {ops : Array Oper} {rest : List Oper} {o : Oper} {a : Act} {Q : Exit → Act → World → Prop} {Z : Value → World → Prop} (hgd : o.guard = none) (s x : Operand) (t u : TypeId)
    (ho : o.op = .call { callee := .builtin .append, args := #[s, x], argTypes := #[t, u] }) (v vx : Value) (hs : a.eval s = v) (hx : a.eval x = vx)
    (hr : ∃ v' w', (Builtin.append_ #[t, u] o.type #[v, vx]).run Tryz.prog w = .ok v' w' ∧ Z v' w')
    (h : ∀ v' w', Z v' w' → wpList Tryz.prog ops Q rest (a.put o.dst v') w') : wpList Tryz.prog ops Q (o :: rest) a w := by
  refine wpList_plain hgd fun K hK => ?_
  obtain ⟨v', w', hr, h2⟩ := hr
  unfold Oper.wp execOp
  simp only [ho, resolve, invoke, builtin, Sem.run_bind, Sem.run_pure, Result.andThen_ok, List.map_toArray, List.map_cons, List.map_nil, hs, hx, hr]
  exact hK _ _ (h v' w' h2)
theorem app0 (B : Nat) (W : World) : (Builtin.append_ #[31, 3] 31 #[.slice (some ⟨B, 0, none⟩) 2 2, .int .i64 0]).run Tryz.prog W = .ok (.slice (some ⟨B, 0, none⟩) 2 2) W := by kernel_rfl
theorem app_grow (n : Nat) (hn : n = 1 ∨ n = 2) (B : Nat) (x y : Value) (W : World) (h0 : W.cell? ⟨B, 0, none⟩ = some x) (h1 : W.cell? ⟨B, 1, none⟩ = some y) :
    (Builtin.append_ #[31, 3] 31 #[.slice (some ⟨B, 0, none⟩) 2 2, .int .i64 n]).run Tryz.prog W =
      .ok (.slice (some ⟨W.heap.size, 0, none⟩) (2 + n) (grownCap W (2 + n) 2 5)) (W.drew.alloc (.cells (#[x, y] ++ Builtin.zeroCells #[.int .u8 0] n ++ Builtin.zeroCells #[.int .u8 0] (grownCap W (2 + n) 2 5 - (2 + n))) 5)) := by
  obtain ⟨i0, hi, hz0, hz1, hz2⟩ := info_parts Tryz.infoU8
  have hf := run_firstCells_some (P := Tryz.prog) W.drew 1 2 ⟨B, 0, none⟩ 2 2 [x, y] rfl (by
    intro j v hj
    match j, hj with
    | 0, hj => simp at hj; subst hj; simpa [Addr.add] using h0
    | 1, hj => simp at hj; subst hj; simpa [Addr.add] using h1)
  have ha1 : ∀ W' : World, (asInt (.int .i64 1)).run Tryz.prog W' = .ok 1 W' := fun W' => by kernel_rfl
  have ha2 : ∀ W' : World, (asInt (.int .i64 2)).run Tryz.prog W' = .ok 2 W' := fun W' => by kernel_rfl
  have hw1 : IntKind.i64.wrap 1 = 1 := by kernel_rfl
  have hw2 : IntKind.i64.wrap 2 = 2 := by kernel_rfl
  rcases hn with rfl | rfl
  · simp [Builtin.append_, run_underlying Tryz.underlying31, run_underlying Tryz.underlying3, sizeOf, typeInfo, zeroValue, hi, hz0, hz1, hz2, Builtin.lenOf, Question.forced, hf, newRow, grownCap, Value.cells, Builtin.nextslicecap, ha1, hw1]
    intro h
    exact absurd h (by decide)
  · simp [Builtin.append_, run_underlying Tryz.underlying31, run_underlying Tryz.underlying3, sizeOf, typeInfo, zeroValue, hi, hz0, hz1, hz2, Builtin.lenOf, Question.forced, hf, newRow, grownCap, Value.cells, Builtin.nextslicecap, ha2, hw2]
    intro h
    exact absurd h (by decide)
theorem zero_cells (n : Nat) : (Builtin.zeroCells #[.int .u8 0] n).toList = (List.replicate n (0 : Int)).map (Value.int .u8) := by
  simp [Builtin.zeroCells, Nat.mod_one, List.map_const']
/-- two bytes with n zeros behind, n at most 2: as the walk appends them -/
theorem app_zeros (n : Nat) (hn : n ≤ 2) (x y : Int) (W : World) (hx : 0 ≤ x ∧ x ≤ 255) (hy : 0 ≤ y ∧ y ≤ 255) :
    ∃ v w', (Builtin.append_ #[31, 3] 31 #[.slice (some ⟨W.heap.size, 0, none⟩) 2 2, .int .i64 n]).run Tryz.prog (W.alloc (.cells #[.int .u8 x, .int .u8 y] 5)) = .ok v w' ∧ (Byt w' v (x :: y :: List.replicate n 0) ∧ Below W.heap.size W w') := by
  have c0 : (W.alloc (.cells #[.int .u8 x, .int .u8 y] 5)).cell? ⟨W.heap.size, 0, none⟩ = some (.int .u8 x) := by simp
  have c1 : (W.alloc (.cells #[.int .u8 x, .int .u8 y] 5)).cell? ⟨W.heap.size, 1, none⟩ = some (.int .u8 y) := by simp
  have hrange : ∀ j, 0 ≤ (x :: y :: List.replicate n (0 : Int)).getD j 0 ∧ (x :: y :: List.replicate n (0 : Int)).getD j 0 ≤ 255 := by
    intro j
    match j with
    | 0 => simpa using hx
    | 1 => simpa using hy
    | j + 2 =>
      simp only [List.getD_cons_succ]
      rw [List.getD_eq_getElem?_getD, List.getElem?_replicate]
      split <;> simp
  by_cases h0 : n = 0
  · subst h0
    refine ⟨_, _, app0 _ _, ⟨_, 2, rfl, ⟨by simp, by unfold maxLen; simp⟩, hrange, .inr ⟨W.heap.size, 0, rfl, fun j hj => ?_⟩⟩, (Below.refl _ _).alloc (Nat.le_refl _) _⟩
    match j, hj with
    | 0, _ => exact c0
    | 1, _ => exact c1
  · have hge := grownCap_ge (W.alloc (.cells #[.int .u8 x, .int .u8 y] 5)) (2 + n) 2 5
    have hle := grownCap_le_maxLen (W.alloc (.cells #[.int .u8 x, .int .u8 y] 5)) (2 + n) 2 5 (by unfold maxLen; omega)
    have hb1 : Below W.heap.size W (W.alloc (.cells #[.int .u8 x, .int .u8 y] 5)).drew := ((Below.refl _ _).alloc (Nat.le_refl _) _).drew
    refine ⟨_, _, app_grow n (by omega) _ _ _ _ c0 c1, ?_, hb1.alloc hb1.size _⟩
    generalize grownCap (W.alloc (.cells #[.int .u8 x, .int .u8 y] 5)) (2 + n) 2 5 = g at hge hle
    refine byt_of_owns (B := 0) (n := 2 + n) ⟨by simp; omega, .inr ⟨_, g, _, rfl, Nat.zero_le _, heap_alloc_new _ _, hge, hle, ?_, ?_⟩⟩ hrange
    · simp [Builtin.zeroCells]
      omega
    · simp only [Array.toList_append, zero_cells, List.append_assoc]
      rw [show ([.int .u8 x, .int .u8 y] : List Value) ++ ((List.replicate n (0 : Int)).map (Value.int .u8) ++ (List.replicate (g - (2 + n)) (0 : Int)).map (Value.int .u8)) = ((x :: y :: List.replicate n (0 : Int)).map (Value.int .u8)) ++ (List.replicate (g - (2 + n)) (0 : Int)).map (Value.int .u8) from by simp]
      exact List.take_left' (by simp; omega)
end Go.Proofs.YtoocdfgjkeheaaaGreatDoor.K
/- Proved here: append(bytes, make([]byte, n)...): the bytes with n zeros behind, in a row of one's own. Helpers. -/
namespace Go.Proofs.YtoocdfgjkeheaaaGreatDoor.K
open Go.RowKit
set_option maxRecDepth 100000

/-- bytes in a row that may be written, at B or behind -/
structure OwnB (w : World) (B g cap : Nat) (l : List Int) : Prop where
  cap1 : l.length ≤ cap
  cap2 : cap ≤ maxLen
  at_ : B ≤ g
  cell : ∀ j, j < l.length → w.cell? ⟨g, j, none⟩ = some (.int .u8 (l.getD j 0)) ∧ w.frozen? ⟨g, j, none⟩ = false
theorem OwnB.byt {w : World} {B g cap : Nat} {l : List Int} (h : OwnB w B g cap l) (hr : ∀ j, 0 ≤ l.getD j 0 ∧ l.getD j 0 ≤ 255) : Byt w (.slice (some ⟨g, 0, none⟩) l.length cap) l :=
  ⟨_, cap, rfl, ⟨h.cap1, h.cap2⟩, hr, .inr ⟨g, 0, rfl, fun j hj => by rw [Nat.zero_add]; exact (h.cell j hj).1⟩⟩
theorem owns_ownB {w : World} {B n : Nat} {v : Value} {l : List Int} (h : w.ownsRow B 5 1 v n (l.map (Value.int .u8))) (h1 : 1 ≤ n) : ∃ g cap, v = .slice (some ⟨g, 0, none⟩) n cap ∧ OwnB w B g cap l := by
  have hl : l.length = n := by simpa using h.1
  rcases h.2 with ⟨_, h0⟩ | ⟨g, cap, cur, rfl, hB, hg, hnc, hcm, hcs, htake⟩
  · omega
  · refine ⟨g, cap, rfl, by omega, hcm, hB, fun j hj => ⟨?_, ?_⟩⟩
    · rw [h.cellAt j (by omega), List.getElem?_map, List.getElem?_eq_getElem hj, List.getD_eq_getElem?_getD, List.getElem?_eq_getElem hj]; rfl
    · simp [World.frozen?, hg]
/-- append of n zeros to new bytes; h0: what it does where n is 0 -/
theorem zeros_own (xs : List Int) (n : Nat) (hx : 1 ≤ xs.length) (hl : xs.length + n ≤ 1000) (W : World)
    (h0 : ∀ W' : World, (Builtin.append_ #[31, 3] 31 #[.slice (some ⟨W.heap.size, 0, none⟩) xs.length xs.length, .int .i64 0]).run Tryz.prog W' = .ok (.slice (some ⟨W.heap.size, 0, none⟩) xs.length xs.length) W') :
    ∃ v w', (Builtin.append_ #[31, 3] 31 #[.slice (some ⟨W.heap.size, 0, none⟩) xs.length xs.length, .int .i64 n]).run Tryz.prog (W.alloc (.cells (xs.map (Value.int .u8)).toArray 5)) = .ok v w' ∧
      (w'.ownsRow W.heap.size 5 1 v (xs.length + n) ((xs ++ List.replicate n 0).map (Value.int .u8)) ∧ Below W.heap.size W w') := by
  obtain ⟨i0, hi, hz0, hz1, hz2⟩ := info_parts Tryz.infoU8
  have hb0 : Below W.heap.size W (W.alloc (.cells (xs.map (Value.int .u8)).toArray 5)) := (Below.refl _ _).alloc (Nat.le_refl _) _
  rcases Nat.eq_zero_or_pos n with rfl | hn
  · refine ⟨_, _, h0 _, ⟨by simp, .inr ⟨W.heap.size, xs.length, _, rfl, Nat.le_refl _, heap_alloc_new _ _, by omega, by unfold maxLen; omega, by simp, ?_⟩⟩, hb0⟩
    simp
    exact List.take_of_length_le (by simp)
  · have hold := run_firstCells_some (P := Tryz.prog) (W.alloc (.cells (xs.map (Value.int .u8)).toArray 5)).drew 1 xs.length ⟨W.heap.size, 0, none⟩ xs.length xs.length (xs.map (Value.int .u8)) (by simp) (by
      intro j v hj
      have hj2 : j < xs.length := by
        rcases Nat.lt_or_ge j xs.length with h | h
        · exact h
        · rw [List.getElem?_eq_none (by simpa using h)] at hj; cases hj
      rw [addr_add, Nat.zero_add]
      show (W.alloc (.cells (xs.map (Value.int .u8)).toArray 5)).cell? ⟨W.heap.size, j, none⟩ = some v
      rw [World.cell?_alloc_at _ _ _ _ rfl, List.getElem?_toArray]
      exact hj)
    have hnc : Builtin.nextslicecap (xs.length + n) xs.length * i0.bytes ≤ 281474976710656 := by
      rw [hz2]
      exact growslice_fits (by omega) (by omega)
    have := Lib.run_append_grow_zeros (P := Tryz.prog) (W.alloc (.cells (xs.map (Value.int .u8)).toArray 5)) 31 3 31 5 i0 (.int .u8 0) .i64 .i64 Tryz.underlying31 Tryz.underlying3 hi hz0 (some ⟨W.heap.size, 0, none⟩) xs.length xs.length (xs.map (Value.int .u8)) (by rw [hz1]; exact hold) n hn (by rw [hz1]; decide) (by omega) (by omega) (by rw [hz2]; omega) hnc
    have hge := grownCap_ge (W.alloc (.cells (xs.map (Value.int .u8)).toArray 5)) (xs.length + n) xs.length 5
    have hle := grownCap_le_maxLen (W.alloc (.cells (xs.map (Value.int .u8)).toArray 5)) (xs.length + n) xs.length 5 (by unfold maxLen; omega)
    have hb1 : Below W.heap.size W (W.alloc (.cells (xs.map (Value.int .u8)).toArray 5)).drew := hb0.drew
    refine ⟨_, _, this, ?_, hb1.alloc hb1.size _⟩
    generalize grownCap (W.alloc (.cells (xs.map (Value.int .u8)).toArray 5)) (xs.length + n) xs.length 5 = g at hge hle
    refine ⟨by simp, .inr ⟨_, g, _, rfl, by simp, heap_alloc_new _ _, hge, hle, ?_, ?_⟩⟩
    · simp [Builtin.zeroCells, Value.cells]
      omega
    · show ((xs.map (Value.int .u8)).toArray ++ Builtin.zeroCells #[.int .u8 0] n ++ Builtin.zeroCells #[.int .u8 0] (g - (xs.length + n))).toList.take _ = _
      rw [Array.toList_append, Array.toList_append, zero_cells, zero_cells, List.map_append]
      exact List.take_left' (by simp)
/-- a row of one's own behind W that holds the bytes -/
def Zrow (W : World) (l : List Int) (v : Value) (w' : World) : Prop := w'.ownsRow W.heap.size 5 1 v l.length (l.map (Value.int .u8)) ∧ Below W.heap.size W w'
theorem zeros_row (xs : List Int) (n : Nat) (hx : 1 ≤ xs.length) (hl : xs.length + n ≤ 1000) (W : World)
    (h0 : ∀ W' : World, (Builtin.append_ #[31, 3] 31 #[.slice (some ⟨W.heap.size, 0, none⟩) xs.length xs.length, .int .i64 0]).run Tryz.prog W' = .ok (.slice (some ⟨W.heap.size, 0, none⟩) xs.length xs.length) W') :
    ∃ v w', (Builtin.append_ #[31, 3] 31 #[.slice (some ⟨W.heap.size, 0, none⟩) xs.length xs.length, .int .i64 n]).run Tryz.prog (W.alloc (.cells (xs.map (Value.int .u8)).toArray 5)) = .ok v w' ∧ Zrow W (xs ++ List.replicate n 0) v w' := by
  obtain ⟨v, w', h1, h2, h3⟩ := zeros_own xs n hx hl W h0
  exact ⟨v, w', h1, by rw [List.length_append, List.length_replicate]; exact h2, h3⟩
theorem Zrow.open_ {W w' : World} {l : List Int} {v : Value} (h : Zrow W l v w') (hl : 1 ≤ l.length) : ∃ g cap, v = .slice (some ⟨g, 0, none⟩) l.length cap ∧ OwnB w' W.heap.size g cap l ∧ Below W.heap.size W w' := by
  obtain ⟨g, cap, h1, h2⟩ := owns_ownB h.1 hl
  exact ⟨g, cap, h1, h2, h.2⟩
/-- what another stream's feeding leaves as it was -/
theorem Str.fb {w w' : World} {S T : Nat} {lim : Int} (h : Str w T lim 0 (.slice none 0 0) []) (hf : FB S none w w') (hT : T ≠ S) : Str w' T lim 0 (.slice none 0 0) [] := by
  have hl : T < w.heap.size := cell_lt h.c0
  have hb : w'.heap[T]? = w.heap[T]? := hf.block T hl hT (fun e => by cases e)
  exact ⟨(World.cell?_of_block (a := ⟨T, 0, none⟩) hb).trans h.c0, (World.cell?_of_block (a := ⟨T, 1, none⟩) hb).trans h.c1, (World.cell?_of_block (a := ⟨T, 2, none⟩) hb).trans h.c2, (World.frozen?_of_block (a := ⟨T, 1, none⟩) hb).trans h.f1, (World.frozen?_of_block (a := ⟨T, 2, none⟩) hb).trans h.f2, World.ownsRow_nil _ _ _ _, h.rng⟩
theorem byt_fb {w w' : World} {S g n cap : Nat} {l : List Int} (h : Byt w (.slice (some ⟨g, 0, none⟩) n cap) l) (hf : FB S none w w') (hg : g ≠ S) (hl : g < w.heap.size) : Byt w' (.slice (some ⟨g, 0, none⟩) n cap) l := by
  obtain ⟨ao, cap', e, h2, h3, h4⟩ := h
  have hb : w'.heap[g]? = w.heap[g]? := hf.block g hl hg (fun e => by cases e)
  refine ⟨ao, cap', e, h2, h3, ?_⟩
  rcases h4 with h4 | ⟨b, off, e2, hc⟩
  · exact .inl h4
  · have hgb : g = b := by
      simp only [Value.slice.injEq] at e
      rw [e2] at e
      have h5 := e.1
      simp at h5
      exact h5.1
    subst hgb
    exact .inr ⟨g, off, e2, fun j hj => (World.cell?_of_block (a := ⟨g, off + j, none⟩) hb).trans (hc j hj)⟩
theorem pub_is (k : Nat) (h : 4 ≤ k) : (48 :: (k : Int) :: 0 :: 1 :: 97 :: 0 :: List.replicate (k - 4) 0) = pubL (k - 4) := by
  unfold pubL
  rw [show ((k - 4 : Nat) : Int) + 4 = (k : Int) by omega]
theorem pub_range (k : Nat) (h : 4 ≤ k) (h2 : k < 58) : ∀ j, 0 ≤ (pubL (k - 4)).getD j 0 ∧ (pubL (k - 4)).getD j 0 ≤ 255 := by
  intro j
  rw [← pub_is k h]
  match j with
  | 0 => simp
  | 1 => simp; omega
  | 2 => simp
  | 3 => simp
  | 4 => simp
  | 5 => simp
  | j + 6 =>
    simp only [List.getD_cons_succ]
    rw [List.getD_eq_getElem?_getD, List.getElem?_replicate]
    split <;> simp
/-- what feeding that packet tells -/
theorem pub_run {k : Nat} (h : 4 ≤ k) (h2 : k < 58) {Ps : List Pa} {n : Nat} {m : Int} (hr : SRun ((k : Int) + 2) (pubL (k - 4)) Ps n m) : m = 3 ∧ n = k + 2 ∧ ∃ P, Ps = [P] ∧ P.payload.size = k - 4 := by
  obtain ⟨f1, f2, P, r, f3, f4⟩ := pub_facts (k - 4) (by omega)
  rw [show ((k - 4 : Nat) : Int) + 6 = (k : Int) + 2 by omega] at f1
  obtain ⟨Qs, j, rfl, rfl, hr2⟩ := srun_step hr f1 f3
  rw [f2, List.drop_of_length_le (by rw [pub_len]; exact Nat.le_refl _)] at hr2
  obtain ⟨rfl, rfl, rfl⟩ := srun_stop hr2 (end3 _ (by omega)) (by decide)
  exact ⟨rfl, by rw [f2]; omega, P, rfl, f4⟩
theorem ping_byt (w : World) : Byt (w.alloc (.cells #[.int .u8 192, .int .u8 0] 5)) (.slice (some ⟨w.heap.size, 0, none⟩) 2 2) [192, 0] := by
  refine ⟨_, 2, rfl, ⟨by simp, by unfold maxLen; simp⟩, ?_, .inr ⟨w.heap.size, 0, rfl, ?_⟩⟩
  · intro j; rcases j with _ | _ | j <;> simp
  · intro j hj; rcases j with _ | _ | j
    · simp
    · simp
    · simp at hj; omega
theorem app0_two (B : Nat) (W : World) : (Builtin.append_ #[31, 3] 31 #[.slice (some ⟨B, 0, none⟩) 2 2, .int .i64 0]).run Tryz.prog W = .ok (.slice (some ⟨B, 0, none⟩) 2 2) W := by kernel_rfl
theorem app0_six (B : Nat) (W : World) : (Builtin.append_ #[31, 3] 31 #[.slice (some ⟨B, 0, none⟩) 6 6, .int .i64 0]).run Tryz.prog W = .ok (.slice (some ⟨B, 0, none⟩) 6 6) W := by kernel_rfl
theorem two_range (k : Nat) (h : k < 58) : ∀ j, 0 ≤ (48 :: (k : Int) :: List.replicate k 0).getD j 0 ∧ (48 :: (k : Int) :: List.replicate k 0).getD j 0 ≤ 255 := by
  intro j
  match j with
  | 0 => simp
  | 1 => simp; omega
  | j + 2 =>
    simp only [List.getD_cons_succ]
    rw [List.getD_eq_getElem?_getD, List.getElem?_replicate]
    split <;> simp
theorem byt_set {w1 : World} {g1 cap1 n : Nat} {k : Nat} {l : List Int} (hc : 2 ≤ n) (h : Byt w1 (.slice (some ⟨g1, 0, none⟩) n cap1) (48 :: (k : Int) :: l)) :
    Byt ((w1.setCell ⟨g1, 3, none⟩ (.int .u8 1)).setCell ⟨g1, 4, none⟩ (.int .u8 97)) (.slice (some ⟨g1, 0, none⟩) 2 cap1) [48, (k : Int)] := by
  have h2 := h.take 2 (by omega)
  obtain ⟨ao, cap', e, h3, h4, h5⟩ := h2
  refine ⟨ao, cap', e, h3, h4, ?_⟩
  rcases h5 with h5 | ⟨b, off, e2, hc⟩
  · exact .inl h5
  · subst e2
    have e3 : g1 = b ∧ 0 = off := by
      simp only [Value.slice.injEq, Option.some.injEq, Addr.mk.injEq] at e
      exact ⟨e.1.1, e.1.2.1⟩
    obtain ⟨rfl, rfl⟩ := e3
    refine .inr ⟨g1, 0, rfl, fun j hj => ?_⟩
    have hj2 : j < 2 := by simpa using hj
    have := hc j hj
    have n4 : (⟨g1, 4, none⟩ : Addr) ≠ ⟨g1, 0 + j, none⟩ := by intro e; simp only [Addr.mk.injEq] at e; omega
    have n3 : (⟨g1, 3, none⟩ : Addr) ≠ ⟨g1, 0 + j, none⟩ := by intro e; simp only [Addr.mk.injEq] at e; omega
    exact (World.cell?_setCell_other _ _ _ _ n4).trans ((World.cell?_setCell_other _ _ _ _ n3).trans this)
end Go.Proofs.YtoocdfgjkeheaaaGreatDoor.K
/- Proved here: the statement StreamLimits, called in any world whose listed variable is as laid, tells true and changes nothing that was there. -/
namespace Go.Proofs.YtoocdfgjkeheaaaGreatDoor.K
open Go.RowKit
set_option maxRecDepth 100000

set_option maxHeartbeats 20000000 in
theorem limits_walk (lim : Int) (ao : Option Addr) (len cap : Nat) (w : World) (hg : Laid w) :
    Calls Tryz.prog 22 #[.agg #[.int .i64 lim, .slice ao len cap]] w fun e w' => e = .returned (.bool true) ∧ Below w.heap.size w w' := by
  have HG := hide hg
  clear hg
  go_enter Tryz.func22, Tryz.ntmps22
  go_wp2
  have HW0 : Hid (Below w.heap.size w (w.alloc (.cells #[.int .i64 lim, .slice ao len cap] 57))) := (Below.refl _ _).alloc (Nat.le_refl _) _
  have hcL : (w.alloc (.cells #[.int .i64 lim, .slice ao len cap] 57)).cell? ⟨w.heap.size, 1, none⟩ = some (.slice ao len cap) := by simp
  have hsz0 : w.heap.size < (w.alloc (.cells #[.int .i64 lim, .slice ao len cap] 57)).heap.size := by simp
  have HCL := hide hcL
  clear hcL
  generalize w.alloc (.cells #[.int .i64 lim, .slice ao len cap] 57) = W0 at HW0 HCL hsz0 ⊢
  go_loopw [3] (fun i wr => ∃ k : Nat, k ≤ 58 ∧ i = .int .i64 ((k : Int) + 2) ∧ Hid (Below W0.heap.size W0 wr)) (fun i _ => 60 - (intOf i).toNat)
  case atStart => exact ⟨0, by omega, rfl, Below.refl _ _⟩
  case round =>
    obtain ⟨k, hk, rfl, HBW⟩ := hrel
    have HGr := hide ((unhide HG).below ((unhide HW0).trans ((unhide HBW).mono (unhide HW0).size)) (unhide HG).pos)
    by_cases hlt : k < 58
    · by_cases hk4 : 4 ≤ k
      · have h60 : ((k : Int) + 2) < 60 := by omega
        have HAP1 : Hid (∃ v w', (Builtin.append_ #[31, 3] 31 #[.slice (some ⟨wr.heap.size, 0, none⟩) 2 2, .int .i64 (k : Int)]).run Tryz.prog (wr.alloc (.cells #[.int .u8 48, .int .u8 (k : Int)] 5)) = .ok v w' ∧ Zrow wr (48 :: (k : Int) :: List.replicate k 0) v w') := zeros_row [48, (k : Int)] k (by simp) (by simp; omega) wr (fun W' => app0_two _ W')
        go_wp2_with (first | (at_builtin; refine wpList_append_run _ rfl _ _ 31 3 rfl _ _ rfl rfl (unhide HAP1) ?_) | fail)
        intro v1 w1 hz1
        obtain ⟨g1, cap1, rfl, hob1, hb1⟩ := hz1.open_ (by simp)
        have HB1 := hide hb1
        have hg1 := hob1.at_
        have hc3 := hob1.cell 3 (by simp; omega)
        have hc4 := hob1.cell 4 (by simp; omega)
        obtain ⟨hc3, hf3⟩ := hc3
        obtain ⟨hc4, hf4⟩ := hc4
        clear hb1 hob1 hz1 HAP1
        have HAP2 : Hid (∃ v w', (Builtin.append_ #[31, 3] 31 #[.slice (some ⟨w1.heap.size, 0, none⟩) 6 6, .int .i64 ((k : Int) + 2 - 6)]).run Tryz.prog (((w1.setCell ⟨g1, 3, none⟩ (.int .u8 1)).setCell ⟨g1, 4, none⟩ (.int .u8 97)).alloc (.cells #[.int .u8 48, .int .u8 (k : Int), .int .u8 0, .int .u8 1, .int .u8 97, .int .u8 0] 5)) = .ok v w' ∧ Zrow ((w1.setCell ⟨g1, 3, none⟩ (.int .u8 1)).setCell ⟨g1, 4, none⟩ (.int .u8 97)) (48 :: (k : Int) :: 0 :: 1 :: 97 :: 0 :: List.replicate (k - 4) 0) v w') := by
          have e : ((k : Int) + 2 - 6) = ((k - 4 : Nat) : Int) := by omega
          have hz := zeros_row [48, (k : Int), 0, 1, 97, 0] (k - 4) (by simp) (by simp; omega) ((w1.setCell ⟨g1, 3, none⟩ (.int .u8 1)).setCell ⟨g1, 4, none⟩ (.int .u8 97)) (fun W' => app0_six _ W')
          rw [show ((w1.setCell ⟨g1, 3, none⟩ (.int .u8 1)).setCell ⟨g1, 4, none⟩ (.int .u8 97)).heap.size = w1.heap.size by simp] at hz
          show ∃ v w', _
          rw [e]
          exact hz
        have HBs : Hid (Below wr.heap.size wr ((w1.setCell ⟨g1, 3, none⟩ (.int .u8 1)).setCell ⟨g1, 4, none⟩ (.int .u8 97))) := ((unhide HB1).setCell hg1 _).setCell hg1 _
        go_wp2_with (first | (at_builtin; refine wpList_append_run _ rfl _ _ 31 3 rfl _ _ rfl rfl (unhide HAP2) ?_) | fail)
        intro v2 w2 hz2
        obtain ⟨g2, cap2, hv2, hob2, hb2⟩ := hz2.open_ (by simp)
        have HB2 : Hid (Below wr.heap.size wr w2) := (unhide HBs).trans (hb2.mono (unhide HBs).size)
        have hlen2 : (48 :: (k : Int) :: 0 :: 1 :: 97 :: 0 :: List.replicate (k - 4) 0).length = k + 2 := by simp; omega
        rw [hlen2] at hv2
        subst hv2
        have HY2 : Hid (Byt w2 (.slice (some ⟨g2, 0, none⟩) (k + 2) cap2) (pubL (k - 4))) := by
          have h := hob2.byt (by rw [pub_is k hk4]; exact pub_range k hk4 hlt)
          rw [hlen2, pub_is k hk4] at h
          exact h
        have hg2 : g2 < w2.heap.size := cell_lt (hob2.cell 0 (by simp)).1
        have hcp2 : k + 2 ≤ cap2 := by have := hob2.cap1; rw [hlen2] at this; exact this
        clear hb2 hob2 hz2 HAP2 HBs hc3 hf3 hc4 hf4 HB1 hg1 hlen2
        have hsl : slim ((k : Int) + 2) = (k : Int) + 2 := by unfold slim; rw [if_neg (by omega), if_neg (by omega)]
        have hsl2 : slim ((k : Int) + 2 - 1) = (k : Int) + 1 := by unfold slim; rw [if_neg (by omega), if_neg (by omega)]; omega
        have HN1 := hide (snew_any ((k : Int) + 2) w2)
        rw [hsl] at HN1
        go_wp2_with fail
        refine (unhide HN1).mono ?_
        rintro e w3 ⟨rfl, hw3⟩
        have HS3 : Hid (Str w3 w2.heap.size ((k : Int) + 2) 0 (.slice none 0 0) []) := by rw [hw3]; exact str_new _ _
        have HBd3 : Hid (Below w2.heap.size w2 w3) := by rw [hw3]; exact (Below.refl _ _).alloc (Nat.le_refl _) _
        have hs3 : w3.heap.size = w2.heap.size + 1 := by rw [hw3]; simp
        clear hw3 HN1 hsl
        have HN2 := hide (snew_any ((k : Int) + 2 - 1) w3)
        rw [hsl2] at HN2
        go_wp2_with fail
        refine (unhide HN2).mono ?_
        rintro e w4 ⟨rfl, hw4⟩
        have HT4 : Hid (Str w4 w3.heap.size ((k : Int) + 1) 0 (.slice none 0 0) []) := by rw [hw4]; exact str_new _ _
        have HBd4 : Hid (Below w3.heap.size w3 w4) := by rw [hw4]; exact (Below.refl _ _).alloc (Nat.le_refl _) _
        have hs4 : w4.heap.size = w3.heap.size + 1 := by rw [hw4]; simp
        clear hw4 HN2 hsl2
        have HS4 := hide ((unhide HS3).below (unhide HBd4))
        have HB24 : Hid (Below w2.heap.size w2 w4) := (unhide HBd3).trans ((unhide HBd4).mono (by omega))
        have HB4 : Hid (Below wr.heap.size wr w4) := (unhide HB2).trans ((unhide HB24).mono (unhide HB2).size)
        have HG4 := hide ((unhide HGr).below (unhide HB4) (unhide HGr).pos)
        clear HS3 HBd3 HBd4
        have HY4 := hide ((unhide HY2).below (unhide HB24))
        go_wp2_with fail
        refine (sfeed_ok w2.heap.size ((k : Int) + 2) (.slice none 0 0) [] _ (pubL (k - 4)) _ (unhide HG4) (unhide HS4) (unhide HY4) (by omega) (by rw [List.nil_append, pub_len]; omega)).mono ?_
        rintro e w5 ⟨v5, E5, qs5, Ps5, n5, m5, hv5, rfl, -, hrun5, -, hpk5, hres5, -, hfb5⟩
        rw [List.nil_append] at hrun5
        obtain ⟨rfl, rfl, P, rfl, hpay⟩ := pub_run hk4 hlt hrun5
        obtain rfl : E5 = .nilIface := by
          rcases hres5 with ⟨_, h1, _⟩ | ⟨h1, _⟩
          · exact h1
          · exact absurd rfl h1
        obtain ⟨q, rfl⟩ : ∃ q, qs5 = [q] := List.length_eq_one_iff.1 hpk5.len
        have hmean := hpk5.mean 0 q P rfl rfl
        have hqp : q.payload.size = k - 4 := by rw [hmean.sc.2.2.2.2.2.2.1]; exact hpay
        obtain ⟨g5, cap5, rfl, hc5⟩ : ∃ g cap, v5 = .slice (some ⟨g, 0, none⟩) 1 cap ∧ w5.cell? ⟨g, 6, none⟩ = some (.string q.payload) := by
          have hrow := hpk5.row
          rcases hrow.2 with ⟨_, h0⟩ | ⟨g, cap, cur, rfl, _⟩
          · simp at h0
          · exact ⟨g, cap, rfl, by rw [hrow.cellAt 6 (by simp)]; rfl⟩
        have HT5 := hide ((unhide HT4).fb hfb5 (by omega))
        have HY5 := hide (byt_fb (unhide HY4) hfb5 (by omega) (by omega))
        have HB5 : Hid (Below wr.heap.size wr w5) := hfb5.bel (unhide HB4) (unhide HB4).size (unhide HB2).size (fun g e => by cases e)
        have hs5 : w4.heap.size ≤ w5.heap.size := hfb5.size
        have HG5 := hide ((unhide HGr).below (unhide HB5) (unhide HGr).pos)
        clear hrun5 hpk5 hres5 hfb5 hmean hpay HT4 HY4 HB4 HG4 HS4 HY2 HB24
        have hqz : (((k - 4 : Nat) : Int) != (k : Int) + 2 - 6) = false := by rw [bne_eq_false_iff_eq]; omega
        rw [hs3] at HT5
        go_wp2_with (first | (go_at_call 43; refine (num5_nil _).mono ?_; rintro e w6 ⟨rfl, hw6⟩; obtain rfl := hw6.symm; clear hw6))
        have hsr := (unhide HB2).size
        have HYt : Hid (Byt w5 (.slice (some ⟨g2, 0, none⟩) 2 cap2) [48, (k : Int)]) := by
          have h := (unhide HY5).take 2 (by omega)
          rw [← pub_is k hk4] at h
          exact h
        refine (sfeed_ok (w2.heap.size + 1) ((k : Int) + 1) (.slice none 0 0) [] _ [48, (k : Int)] _ (unhide HG5) (unhide HT5) (unhide HYt) (by omega) (by simp)).mono ?_
        rintro e w6 ⟨v6, E6, qs6, Ps6, n6, m6, hv6, rfl, -, hrun6, -, -, hres6, -, hfb6⟩
        rw [List.nil_append] at hrun6
        obtain ⟨rfl, rfl, rfl⟩ := srun_stop hrun6 (lim_facts k (by omega) (by omega)) (by decide)
        obtain ⟨x6, rfl, her6, hst6⟩ : ∃ x, E6 = .iface 149 x ∧ Er w6 1 (.iface 149 x) 2 ∧ Str w6 (w2.heap.size + 1) ((k : Int) + 1) 2 hv6 [] := by
          rcases hres6 with ⟨h1, _⟩ | ⟨_, ⟨x, rfl⟩, h2, h3⟩
          · exact absurd h1 (by decide)
          · exact ⟨x, rfl, h2, h3⟩
        obtain ⟨aoh, caph, rfl, -⟩ := own0 hst6.row
        have HB6 : Hid (Below wr.heap.size wr w6) := hfb6.bel (unhide HB5) (unhide HB5).size (by omega) (fun g e => by cases e)
        have hs6 := (unhide HB6).size
        have HE6 := hide her6
        have HS6 := hide hst6
        clear hrun6 hres6 hfb6 her6 hst6 HYt HT5 HY5 HB5 HG5
        have HA7 : Hid (Below w6.heap.size w6 (w6.alloc (.cells #[.int .u8 192, .int .u8 0] 5))) := (Below.refl _ _).alloc (Nat.le_refl _) _
        go_wp2_with fail
        refine (sfeed_bad (w2.heap.size + 1) ((k : Int) + 1) 2 (.slice aoh 0 caph) [] _ [192, 0] _ ((unhide HS6).below (unhide HA7)) (ping_byt w6) (by decide)).mono ?_
        rintro e w8 ⟨x8, rfl, her8, hb8⟩
        have HB68 : Hid (Below w6.heap.size w6 w8) := (unhide HA7).trans (hb8.mono (unhide HA7).size)
        have HB8 : Hid (Below wr.heap.size wr w8) := (unhide HB6).trans ((unhide HB68).mono hs6)
        have HG8 := hide ((unhide HGr).below (unhide HB8) (unhide HGr).pos)
        have HF8 := hide (Er.below (unhide HB68) (unhide HE6))
        have HE8 := hide her8
        have HS8 := hide ((unhide HS6).below (unhide HB68))
        clear hb8 her8 HA7 HB68 HB6 HS6 HE6
        go_wp2_with (first
          | (go_at_call 43; refine (num5 _ 2 _ (unhide HG8) (.inr ⟨1, by decide, unhide HF8⟩)).mono ?_; rintro e w9 ⟨rfl, hb9⟩; have HB9 : Hid (Below wr.heap.size wr w9) := (unhide HB8).trans (hb9.mono (unhide HB8).size); have HG9 := hide ((unhide HGr).below (unhide HB9) (unhide HGr).pos); have HE9 := hide (Er.below hb9 (unhide HE8)); have HS9 := hide ((unhide HS8).below hb9); clear hb9 HB8 HG8 HE8 HS8 HF8)
          | (go_at_call 43; refine (num5 _ 2 _ (unhide HG9) (.inr ⟨1, by decide, unhide HE9⟩)).mono ?_; rintro e w10 ⟨rfl, hb10⟩; have HB10 : Hid (Below wr.heap.size wr w10) := (unhide HB9).trans (hb10.mono (unhide HB9).size); have c10 := ((unhide HS9).below hb10).c1; clear hb10 HB9 HG9 HE9 HS9)
          | (go_at_call 45; refine (sheld_any (w2.heap.size + 1) aoh 0 caph _ c10).mono ?_; rintro e w11 ⟨rfl, hw11⟩; obtain rfl := hw11.symm; clear hw11))
        exact ⟨⟨k + 1, by omega, by congr 1 <;> omega, (unhide HBW).trans ((unhide HB10).mono (unhide HBW).size)⟩, by simp [intOf]; omega⟩
      · by_cases hk3 : 3 ≤ k
        · have h60 : ((k : Int) + 2) < 60 := by omega
          have HAP1 : Hid (∃ v w', (Builtin.append_ #[31, 3] 31 #[.slice (some ⟨wr.heap.size, 0, none⟩) 2 2, .int .i64 (k : Int)]).run Tryz.prog (wr.alloc (.cells #[.int .u8 48, .int .u8 (k : Int)] 5)) = .ok v w' ∧ Zrow wr (48 :: (k : Int) :: List.replicate k 0) v w') := zeros_row [48, (k : Int)] k (by simp) (by simp; omega) wr (fun W' => app0_two _ W')
          go_wp2_with (first | (at_builtin; refine wpList_append_run _ rfl _ _ 31 3 rfl _ _ rfl rfl (unhide HAP1) ?_) | fail)
          intro v1 w1 hz1
          obtain ⟨g1, cap1, hv1, hob1, hb1⟩ := hz1.open_ (by simp)
          have HB1 := hide hb1
          have hg1 := hob1.at_
          have hlen1 : (48 :: (k : Int) :: List.replicate k 0).length = k + 2 := by simp
          rw [hlen1] at hv1
          subst hv1
          have hcp1 : k + 2 ≤ cap1 := by have := hob1.cap1; rw [hlen1] at this; exact this
          have HY1 : Hid (Byt w1 (.slice (some ⟨g1, 0, none⟩) (k + 2) cap1) (48 :: (k : Int) :: List.replicate k 0)) := by
            have h := hob1.byt (two_range k (by omega))
            rw [hlen1] at h
            exact h
          have hg1b : g1 < w1.heap.size := cell_lt (hob1.cell 0 (by simp)).1
          obtain ⟨hc3, hf3⟩ := hob1.cell 3 (by simp; omega)
          obtain ⟨hc4, hf4⟩ := hob1.cell 4 (by simp; omega)
          have HB2 : Hid (Below wr.heap.size wr ((w1.setCell ⟨g1, 3, none⟩ (.int .u8 1)).setCell ⟨g1, 4, none⟩ (.int .u8 97))) := ((unhide HB1).setCell hg1 _).setCell hg1 _
          have HYc : Hid (Byt ((w1.setCell ⟨g1, 3, none⟩ (.int .u8 1)).setCell ⟨g1, 4, none⟩ (.int .u8 97)) (.slice (some ⟨g1, 0, none⟩) 2 cap1) [48, (k : Int)]) := byt_set (by omega) (unhide HY1)
          have hsz1 : ((w1.setCell ⟨g1, 3, none⟩ (.int .u8 1)).setCell ⟨g1, 4, none⟩ (.int .u8 97)).heap.size = w1.heap.size := by simp
          clear hb1 hob1 hz1 HAP1 HY1
          have hsl : slim ((k : Int) + 2) = (k : Int) + 2 := by unfold slim; rw [if_neg (by omega), if_neg (by omega)]
          have hsl2 : slim ((k : Int) + 2 - 1) = (k : Int) + 1 := by unfold slim; rw [if_neg (by omega), if_neg (by omega)]; omega
          have HN1 := hide (snew_any ((k : Int) + 2) ((w1.setCell ⟨g1, 3, none⟩ (.int .u8 1)).setCell ⟨g1, 4, none⟩ (.int .u8 97)))
          rw [hsl] at HN1
          go_wp2_with fail
          refine (unhide HN1).mono ?_
          rintro e w3 ⟨rfl, hw3⟩
          have HS3 : Hid (Str w3 ((w1.setCell ⟨g1, 3, none⟩ (.int .u8 1)).setCell ⟨g1, 4, none⟩ (.int .u8 97)).heap.size ((k : Int) + 2) 0 (.slice none 0 0) []) := by rw [hw3]; exact str_new _ _
          have HBd3 : Hid (Below ((w1.setCell ⟨g1, 3, none⟩ (.int .u8 1)).setCell ⟨g1, 4, none⟩ (.int .u8 97)).heap.size ((w1.setCell ⟨g1, 3, none⟩ (.int .u8 1)).setCell ⟨g1, 4, none⟩ (.int .u8 97)) w3) := by rw [hw3]; exact (Below.refl _ _).alloc (Nat.le_refl _) _
          have hs3 : w3.heap.size = ((w1.setCell ⟨g1, 3, none⟩ (.int .u8 1)).setCell ⟨g1, 4, none⟩ (.int .u8 97)).heap.size + 1 := by rw [hw3]; simp
          clear hw3 HN1 hsl
          have HN2 := hide (snew_any ((k : Int) + 2 - 1) w3)
          rw [hsl2] at HN2
          go_wp2_with fail
          refine (unhide HN2).mono ?_
          rintro e w4 ⟨rfl, hw4⟩
          have HT4 : Hid (Str w4 w3.heap.size ((k : Int) + 1) 0 (.slice none 0 0) []) := by rw [hw4]; exact str_new _ _
          have HBd4 : Hid (Below w3.heap.size w3 w4) := by rw [hw4]; exact (Below.refl _ _).alloc (Nat.le_refl _) _
          have hs4 : w4.heap.size = w3.heap.size + 1 := by rw [hw4]; simp
          clear hw4 HN2 hsl2
          have HS4 := hide ((unhide HS3).below (unhide HBd4))
          have HB24 : Hid (Below ((w1.setCell ⟨g1, 3, none⟩ (.int .u8 1)).setCell ⟨g1, 4, none⟩ (.int .u8 97)).heap.size ((w1.setCell ⟨g1, 3, none⟩ (.int .u8 1)).setCell ⟨g1, 4, none⟩ (.int .u8 97)) w4) := (unhide HBd3).trans ((unhide HBd4).mono (by omega))
          have HB4 : Hid (Below wr.heap.size wr w4) := (unhide HB2).trans ((unhide HB24).mono (unhide HB2).size)
          have HG4 := hide ((unhide HGr).below (unhide HB4) (unhide HGr).pos)
          clear HS3 HBd3 HBd4
          have HY4 := hide ((unhide HYc).below (unhide HB24))
          rw [hsz1] at hs3
          rw [hs3] at HT4
          go_wp2_with fail
          have hsr := (unhide HB2).size
          have HYt : Hid (Byt w4 (.slice (some ⟨g1, 0, none⟩) 2 cap1) [48, (k : Int)]) := by
            have h := (unhide HY4).take 2 (by omega)
            skip
            exact h
          refine (sfeed_ok (w1.heap.size + 1) ((k : Int) + 1) (.slice none 0 0) [] _ [48, (k : Int)] _ (unhide HG4) (unhide HT4) (unhide HYt) (by omega) (by simp)).mono ?_
          rintro e w6 ⟨v6, E6, qs6, Ps6, n6, m6, hv6, rfl, -, hrun6, -, -, hres6, -, hfb6⟩
          rw [List.nil_append] at hrun6
          obtain ⟨rfl, rfl, rfl⟩ := srun_stop hrun6 (lim_facts k (by omega) (by omega)) (by decide)
          obtain ⟨x6, rfl, her6, hst6⟩ : ∃ x, E6 = .iface 149 x ∧ Er w6 1 (.iface 149 x) 2 ∧ Str w6 (w1.heap.size + 1) ((k : Int) + 1) 2 hv6 [] := by
            rcases hres6 with ⟨h1, _⟩ | ⟨_, ⟨x, rfl⟩, h2, h3⟩
            · exact absurd h1 (by decide)
            · exact ⟨x, rfl, h2, h3⟩
          obtain ⟨aoh, caph, rfl, -⟩ := own0 hst6.row
          have HB6 : Hid (Below wr.heap.size wr w6) := hfb6.bel (unhide HB4) (unhide HB4).size (by omega) (fun g e => by cases e)
          have hs6 := (unhide HB6).size
          have HE6 := hide her6
          have HS6 := hide hst6
          clear hrun6 hres6 hfb6 her6 hst6 HYt HT4 HY4 HB4 HG4
          have HA7 : Hid (Below w6.heap.size w6 (w6.alloc (.cells #[.int .u8 192, .int .u8 0] 5))) := (Below.refl _ _).alloc (Nat.le_refl _) _
          go_wp2_with fail
          refine (sfeed_bad (w1.heap.size + 1) ((k : Int) + 1) 2 (.slice aoh 0 caph) [] _ [192, 0] _ ((unhide HS6).below (unhide HA7)) (ping_byt w6) (by decide)).mono ?_
          rintro e w8 ⟨x8, rfl, her8, hb8⟩
          have HB68 : Hid (Below w6.heap.size w6 w8) := (unhide HA7).trans (hb8.mono (unhide HA7).size)
          have HB8 : Hid (Below wr.heap.size wr w8) := (unhide HB6).trans ((unhide HB68).mono hs6)
          have HG8 := hide ((unhide HGr).below (unhide HB8) (unhide HGr).pos)
          have HF8 := hide (Er.below (unhide HB68) (unhide HE6))
          have HE8 := hide her8
          have HS8 := hide ((unhide HS6).below (unhide HB68))
          clear hb8 her8 HA7 HB68 HB6 HS6 HE6
          go_wp2_with (first
            | (go_at_call 43; refine (num5 _ 2 _ (unhide HG8) (.inr ⟨1, by decide, unhide HF8⟩)).mono ?_; rintro e w9 ⟨rfl, hb9⟩; have HB9 : Hid (Below wr.heap.size wr w9) := (unhide HB8).trans (hb9.mono (unhide HB8).size); have HG9 := hide ((unhide HGr).below (unhide HB9) (unhide HGr).pos); have HE9 := hide (Er.below hb9 (unhide HE8)); have HS9 := hide ((unhide HS8).below hb9); clear hb9 HB8 HG8 HE8 HS8 HF8)
            | (go_at_call 43; refine (num5 _ 2 _ (unhide HG9) (.inr ⟨1, by decide, unhide HE9⟩)).mono ?_; rintro e w10 ⟨rfl, hb10⟩; have HB10 : Hid (Below wr.heap.size wr w10) := (unhide HB9).trans (hb10.mono (unhide HB9).size); have c10 := ((unhide HS9).below hb10).c1; clear hb10 HB9 HG9 HE9 HS9)
            | (go_at_call 45; refine (sheld_any (w1.heap.size + 1) aoh 0 caph _ c10).mono ?_; rintro e w11 ⟨rfl, hw11⟩; obtain rfl := hw11.symm; clear hw11))
          exact ⟨⟨k + 1, by omega, by congr 1 <;> omega, (unhide HBW).trans ((unhide HB10).mono (unhide HBW).size)⟩, by simp [intOf]; omega⟩
        · by_cases hk1 : 1 ≤ k
          · have h60 : ((k : Int) + 2) < 60 := by omega
            have HAP1 : Hid (∃ v w', (Builtin.append_ #[31, 3] 31 #[.slice (some ⟨wr.heap.size, 0, none⟩) 2 2, .int .i64 (k : Int)]).run Tryz.prog (wr.alloc (.cells #[.int .u8 48, .int .u8 (k : Int)] 5)) = .ok v w' ∧ Zrow wr (48 :: (k : Int) :: List.replicate k 0) v w') := zeros_row [48, (k : Int)] k (by simp) (by simp; omega) wr (fun W' => app0_two _ W')
            go_wp2_with (first | (at_builtin; refine wpList_append_run _ rfl _ _ 31 3 rfl _ _ rfl rfl (unhide HAP1) ?_) | fail)
            intro v1 w1 hz1
            obtain ⟨g1, cap1, hv1, hob1, hb1⟩ := hz1.open_ (by simp)
            have HB1 := hide hb1
            have hg1 := hob1.at_
            have hlen1 : (48 :: (k : Int) :: List.replicate k 0).length = k + 2 := by simp
            rw [hlen1] at hv1
            subst hv1
            have hcp1 : k + 2 ≤ cap1 := by have := hob1.cap1; rw [hlen1] at this; exact this
            have HY1 : Hid (Byt w1 (.slice (some ⟨g1, 0, none⟩) (k + 2) cap1) (48 :: (k : Int) :: List.replicate k 0)) := by
              have h := hob1.byt (two_range k (by omega))
              rw [hlen1] at h
              exact h
            have hg1b : g1 < w1.heap.size := cell_lt (hob1.cell 0 (by simp)).1
            have HB2 := HB1
            clear hb1 hob1 hz1 HAP1
            have hsl : slim ((k : Int) + 2) = (k : Int) + 2 := by unfold slim; rw [if_neg (by omega), if_neg (by omega)]
            have hsl2 : slim ((k : Int) + 2 - 1) = (k : Int) + 1 := by unfold slim; rw [if_neg (by omega), if_neg (by omega)]; omega
            have HN1 := hide (snew_any ((k : Int) + 2) w1)
            rw [hsl] at HN1
            go_wp2_with fail
            refine (unhide HN1).mono ?_
            rintro e w3 ⟨rfl, hw3⟩
            have HS3 : Hid (Str w3 w1.heap.size ((k : Int) + 2) 0 (.slice none 0 0) []) := by rw [hw3]; exact str_new _ _
            have HBd3 : Hid (Below w1.heap.size w1 w3) := by rw [hw3]; exact (Below.refl _ _).alloc (Nat.le_refl _) _
            have hs3 : w3.heap.size = w1.heap.size + 1 := by rw [hw3]; simp
            clear hw3 HN1 hsl
            have HN2 := hide (snew_any ((k : Int) + 2 - 1) w3)
            rw [hsl2] at HN2
            go_wp2_with fail
            refine (unhide HN2).mono ?_
            rintro e w4 ⟨rfl, hw4⟩
            have HT4 : Hid (Str w4 w3.heap.size ((k : Int) + 1) 0 (.slice none 0 0) []) := by rw [hw4]; exact str_new _ _
            have HBd4 : Hid (Below w3.heap.size w3 w4) := by rw [hw4]; exact (Below.refl _ _).alloc (Nat.le_refl _) _
            have hs4 : w4.heap.size = w3.heap.size + 1 := by rw [hw4]; simp
            clear hw4 HN2 hsl2
            have HS4 := hide ((unhide HS3).below (unhide HBd4))
            have HB24 : Hid (Below w1.heap.size w1 w4) := (unhide HBd3).trans ((unhide HBd4).mono (by omega))
            have HB4 : Hid (Below wr.heap.size wr w4) := (unhide HB2).trans ((unhide HB24).mono (unhide HB2).size)
            have HG4 := hide ((unhide HGr).below (unhide HB4) (unhide HGr).pos)
            clear HS3 HBd3 HBd4
            have HY4 := hide ((unhide HY1).below (unhide HB24))
            rw [hs3] at HT4
            go_wp2_with fail
            have hsr := (unhide HB2).size
            have HYt : Hid (Byt w4 (.slice (some ⟨g1, 0, none⟩) 2 cap1) [48, (k : Int)]) := by
              have h := (unhide HY4).take 2 (by omega)
              skip
              exact h
            refine (sfeed_ok (w1.heap.size + 1) ((k : Int) + 1) (.slice none 0 0) [] _ [48, (k : Int)] _ (unhide HG4) (unhide HT4) (unhide HYt) (by omega) (by simp)).mono ?_
            rintro e w6 ⟨v6, E6, qs6, Ps6, n6, m6, hv6, rfl, -, hrun6, -, -, hres6, -, hfb6⟩
            rw [List.nil_append] at hrun6
            obtain ⟨rfl, rfl, rfl⟩ := srun_stop hrun6 (lim_facts k (by omega) (by omega)) (by decide)
            obtain ⟨x6, rfl, her6, hst6⟩ : ∃ x, E6 = .iface 149 x ∧ Er w6 1 (.iface 149 x) 2 ∧ Str w6 (w1.heap.size + 1) ((k : Int) + 1) 2 hv6 [] := by
              rcases hres6 with ⟨h1, _⟩ | ⟨_, ⟨x, rfl⟩, h2, h3⟩
              · exact absurd h1 (by decide)
              · exact ⟨x, rfl, h2, h3⟩
            obtain ⟨aoh, caph, rfl, -⟩ := own0 hst6.row
            have HB6 : Hid (Below wr.heap.size wr w6) := hfb6.bel (unhide HB4) (unhide HB4).size (by omega) (fun g e => by cases e)
            have hs6 := (unhide HB6).size
            have HE6 := hide her6
            have HS6 := hide hst6
            clear hrun6 hres6 hfb6 her6 hst6 HYt HT4 HY4 HB4 HG4
            have HA7 : Hid (Below w6.heap.size w6 (w6.alloc (.cells #[.int .u8 192, .int .u8 0] 5))) := (Below.refl _ _).alloc (Nat.le_refl _) _
            go_wp2_with fail
            refine (sfeed_bad (w1.heap.size + 1) ((k : Int) + 1) 2 (.slice aoh 0 caph) [] _ [192, 0] _ ((unhide HS6).below (unhide HA7)) (ping_byt w6) (by decide)).mono ?_
            rintro e w8 ⟨x8, rfl, her8, hb8⟩
            have HB68 : Hid (Below w6.heap.size w6 w8) := (unhide HA7).trans (hb8.mono (unhide HA7).size)
            have HB8 : Hid (Below wr.heap.size wr w8) := (unhide HB6).trans ((unhide HB68).mono hs6)
            have HG8 := hide ((unhide HGr).below (unhide HB8) (unhide HGr).pos)
            have HF8 := hide (Er.below (unhide HB68) (unhide HE6))
            have HE8 := hide her8
            have HS8 := hide ((unhide HS6).below (unhide HB68))
            clear hb8 her8 HA7 HB68 HB6 HS6 HE6
            go_wp2_with (first
              | (go_at_call 43; refine (num5 _ 2 _ (unhide HG8) (.inr ⟨1, by decide, unhide HF8⟩)).mono ?_; rintro e w9 ⟨rfl, hb9⟩; have HB9 : Hid (Below wr.heap.size wr w9) := (unhide HB8).trans (hb9.mono (unhide HB8).size); have HG9 := hide ((unhide HGr).below (unhide HB9) (unhide HGr).pos); have HE9 := hide (Er.below hb9 (unhide HE8)); have HS9 := hide ((unhide HS8).below hb9); clear hb9 HB8 HG8 HE8 HS8 HF8)
              | (go_at_call 43; refine (num5 _ 2 _ (unhide HG9) (.inr ⟨1, by decide, unhide HE9⟩)).mono ?_; rintro e w10 ⟨rfl, hb10⟩; have HB10 : Hid (Below wr.heap.size wr w10) := (unhide HB9).trans (hb10.mono (unhide HB9).size); have c10 := ((unhide HS9).below hb10).c1; clear hb10 HB9 HG9 HE9 HS9)
              | (go_at_call 45; refine (sheld_any (w1.heap.size + 1) aoh 0 caph _ c10).mono ?_; rintro e w11 ⟨rfl, hw11⟩; obtain rfl := hw11.symm; clear hw11))
            exact ⟨⟨k + 1, by omega, by congr 1 <;> omega, (unhide HBW).trans ((unhide HB10).mono (unhide HBW).size)⟩, by simp [intOf]; omega⟩
          · have h60 : ((k : Int) + 2) < 60 := by omega
            have HAP1 : Hid (∃ v w', (Builtin.append_ #[31, 3] 31 #[.slice (some ⟨wr.heap.size, 0, none⟩) 2 2, .int .i64 (k : Int)]).run Tryz.prog (wr.alloc (.cells #[.int .u8 48, .int .u8 (k : Int)] 5)) = .ok v w' ∧ Zrow wr (48 :: (k : Int) :: List.replicate k 0) v w') := zeros_row [48, (k : Int)] k (by simp) (by simp; omega) wr (fun W' => app0_two _ W')
            go_wp2_with (first | (at_builtin; refine wpList_append_run _ rfl _ _ 31 3 rfl _ _ rfl rfl (unhide HAP1) ?_) | fail)
            intro v1 w1 hz1
            obtain ⟨g1, cap1, hv1, hob1, hb1⟩ := hz1.open_ (by simp)
            have HB1 := hide hb1
            have hg1 := hob1.at_
            have hlen1 : (48 :: (k : Int) :: List.replicate k 0).length = k + 2 := by simp
            rw [hlen1] at hv1
            subst hv1
            have hcp1 : k + 2 ≤ cap1 := by have := hob1.cap1; rw [hlen1] at this; exact this
            have HY1 : Hid (Byt w1 (.slice (some ⟨g1, 0, none⟩) (k + 2) cap1) (48 :: (k : Int) :: List.replicate k 0)) := by
              have h := hob1.byt (two_range k (by omega))
              rw [hlen1] at h
              exact h
            have hg1b : g1 < w1.heap.size := cell_lt (hob1.cell 0 (by simp)).1
            have HB2 := HB1
            clear hb1 hob1 hz1 HAP1 HY1
            have HN1 := hide (snew_any ((k : Int) + 2) w1)
            go_wp2_with fail
            refine (unhide HN1).mono ?_
            rintro e w3 ⟨rfl, hw3⟩
            have HBd3 : Hid (Below wr.heap.size wr w3) := by rw [hw3]; exact (unhide HB1).alloc (unhide HB1).size _
            clear hw3 HN1
            have HN2 := hide (snew_any ((k : Int) + 2 - 1) w3)
            go_wp2_with fail
            refine (unhide HN2).mono ?_
            rintro e w4 ⟨rfl, hw4⟩
            have HB10 : Hid (Below wr.heap.size wr w4) := by rw [hw4]; exact (unhide HBd3).alloc (unhide HBd3).size _
            clear hw4 HN2
            go_wp2_with fail
            exact ⟨⟨k + 1, by omega, by congr 1 <;> omega, (unhide HBW).trans ((unhide HB10).mono (unhide HBW).size)⟩, by simp [intOf]; omega⟩
    · have h60 : ¬ ((k : Int) + 2) < 60 := by omega
      have hcL : wr.cell? ⟨w.heap.size, 1, none⟩ = some (.slice ao len cap) := (World.cell?_of_block (a := ⟨w.heap.size, 1, none⟩) ((unhide HBW).block _ hsz0)).trans (unhide HCL)
      go_wp2_with (go_at_call 47; refine (wakes5 _ (unhide HGr)).mono ?_; rintro e w9 ⟨rfl, hb9⟩)
      go_ret
      exact ⟨rfl, (unhide HW0).trans (((unhide HBW).mono (unhide HW0).size).trans (hb9.mono (by have := (unhide HBW).size; omega)))⟩
end Go.Proofs.YtoocdfgjkeheaaaGreatDoor.K
/- Proved here: helper for the card of dovecotelaw5.StreamLimits: called on any readable argument it returns true and its argument reads afterwards as it did. Conditions: errors.errorType holds what the program's text lays (tied by the given tie); nothing else. -/
namespace Go.Proofs.YtoocdfgjkeheaaaGreatDoor
open Go.ChangeShapes Go.WideShapes Go.ChangeAt Go.RowKit Go.Deep

set_option maxRecDepth 100000 in
/-- what a Pieces is in memory -/
theorem pieces_open {W : World} {base : Nat} {v : Value} (h : Value.okWide Tryz.prog W .any base 57 v) : ∃ lim ao len cap, v = .agg #[.int .i64 lim, .slice ao len cap] := by
  have hu0 : (match Tryz.prog.underlying 57 with | some (.struct _) => true | _ => false) = true := by kernel_rfl
  have hu : ∃ fs, Tryz.prog.underlying 57 = some (.struct fs) := by
    revert hu0
    generalize Tryz.prog.underlying 57 = u
    intro hu0
    match u, hu0 with
    | some (.struct fs), _ => exact ⟨fs, rfl⟩
  clear hu0
  obtain ⟨fs, hu⟩ := hu
  have h' : ∃ cs, v = .agg cs ∧ cs.size = Tryz.prog.cellsOf 57 ∧ Row.okWide Tryz.prog W .any base 57 cs := by
    unfold Value.okWide at h
    rw [hu] at h
    exact h
  obtain ⟨cs, rfl, hs, ts, hts, -, hc⟩ := h'
  have e2 : Tryz.prog.cellsOf 57 = 2 := by kernel_rfl
  have e3 : Tryz.prog.cellTypes Tryz.prog.depth 57 = some [3, 55] := by kernel_rfl
  obtain rfl : ts = [3, 55] := Option.some.inj (hts.symm.trans e3)
  rw [e2] at hs
  obtain ⟨a, b, rfl⟩ : ∃ a b, cs = #[a, b] := by
    obtain ⟨l⟩ := cs
    match l, hs with
    | [a, b], _ => exact ⟨a, b, rfl⟩
  obtain ⟨u, hu0, ha⟩ := hc 0 a rfl
  obtain rfl : 3 = u := Option.some.inj hu0
  obtain ⟨u, hu1, hb⟩ := hc 1 b rfl
  obtain rfl : 55 = u := Option.some.inj hu1
  have hi : Tryz.prog.underlying 3 = some (.int .i64) := by kernel_rfl
  have hl : Tryz.prog.underlying 55 = some (.slice 31) := by kernel_rfl
  obtain ⟨n, rfl⟩ := okWide_int (w := W) (r := .any) (base := base) hi (by unfold Value.okWide; rw [hi]; exact ha)
  obtain ⟨ao, len, cap, rfl⟩ := okWide_slice (w := W) (r := .any) (base := base) hl (by unfold Value.okWide; rw [hl]; exact hb)
  exact ⟨n, ao, len, cap, rfl⟩

theorem limits_calls (v : Value) (w : World) (hg : Laid w) (h : ∃ lim ao len cap, v = .agg #[.int .i64 lim, .slice ao len cap]) :
    Calls Tryz.prog 22 #[v] w fun e w' => e = .returned (.bool true) ∧ Below w.heap.size w w' := by
  obtain ⟨lim, ao, len, cap, rfl⟩ := h
  exact K.limits_walk lim ao len cap w hg

set_option maxRecDepth 100000 in
theorem limits_lifted (os : Os) (started : os.Started) (H : Type) (enc : TypeId × Value → H) :
    ReturnsInHanded {} Tryz.checked os 22 .any (fun w args => (Rows.streamLimitsSpec.pre enc Tryz.prog Tryz.f22 [] false w args ∧ laidMetH Tryz.prog laidL w) ∧ sizedMet enc Tryz.prog Tryz.f22 (OpenSpec.ofChange Rows.streamLimitsSpec) false w args)
      (Rows.streamLimitsSpec.post enc Tryz.prog Tryz.f22 false true false false) := by
  refine returnsInHanded_of_change_and (C := Tryz.checked) (X := fun w _ => laidMetH Tryz.prog laidL w) (fun _ _ _ hh h => h.of_heap hh) Tryz.own started (by kernel_rfl) Tryz.func22
    (ChangeSpec.witness_at (enc := enc) (C := Tryz.checked) (os := os) (X := fun w _ => laidMetH Tryz.prog laidL w) false ({ World.holding Tryz.prog os ⟨#[], #[], []⟩ with heap := (World.holding Tryz.prog os ⟨#[], #[], []⟩).heap.modify 0 fun | .cells _ t frozen => .cells #[.iface 199 (.agg #[.pointer (some ⟨1, 37, none⟩)])] t frozen | o => o } : World) #[.agg #[.int .i64 0, .slice none 0 0]] 8 rfl (by kernel_rfl) (by kernel_rfl) (by kernel_rfl) (by kernel_rfl) (by kernel_rfl) (laidWorld_met os _)) ?_
  intro W base args ds gs before hval0 hW _ hsz0 hL _
  have hsz : (DataW.weightsEach Tryz.prog (Tryz.f22.params.toList ++ Rows.streamLimitsSpec.plain.varTypes Tryz.prog) (ds ++ gs)).all (· ≤ reachBytes) = true := hsz0
  clear hsz0
  have hval : ∀ (j : Nat) t v, Tryz.f22.params[j]? = some t → args[j]? = some v → Value.okWide Tryz.prog W .any base t v := hval0
  have hW' := hW
  obtain ⟨p, q, hA0, hV0, rfl, hfz, hnd⟩ := hW
  have hA : DataW.TrodAll enc Tryz.prog W 0 (fun _ => true) true Tryz.f22.params.toList args.toList ds p := hA0
  have hV : DataW.TrodVars enc Tryz.prog W (fun _ => true) [] gs q := hV0
  rw [Tryz.params22] at hA hval hsz
  obtain ⟨v0, d0, rfl, rfl, h0⟩ := trodAll_one hA
  have hg := handle_of_laid hL
  obtain ⟨rfl, rfl⟩ : gs = [] ∧ q = [] := by
    cases gs with
    | nil => exact ⟨rfl, hV⟩
    | cons g r => exact absurd hV (by intro h; cases h)
  simp only [List.append_nil] at hW'
  have hlt : ∀ x ∈ p, x.block < W.heap.size := fun x hx => by simpa using hW'.lt x hx
  have e1 : Rows.streamLimitsSpec.fn H ([d0] ++ []) = { results := [.lit (.bool true)], args := [d0] } := by simp [Rows.streamLimitsSpec]
  have hask : ∃ lim ao len cap, v0 = .agg #[.int .i64 lim, .slice ao len cap] := pieces_open (hval 0 57 v0 rfl rfl)
  refine (limits_calls v0 W hg hask).mono fun e W' ⟨he, hb⟩ => ?_
  subst he
  refine ⟨_, rfl, _, _, _, [], p, [], hW', ?_, ?_, ?_, hb.frame _, fun h => by cases h⟩
  · rw [e1]; exact trodAll_mk1 (shut_bool Tryz.underlying4 true)
  · rw [e1]; exact trodAll_mk1 (Below.trod Tryz.laidOut (by kernel_rfl) (of_decide_eq_true (by kernel_rfl)) h0 hb hlt)
  · rw [e1]; rfl
end Go.Proofs.YtoocdfgjkeheaaaGreatDoor
/- Proved here: what the head of the dump says of the program (its make, that it may be entered, its harness), the words read once: the facts that every row asks, in a form that the kernel tells in a few gigabytes in a seat of many statements. Helpers. -/
namespace Go.Proofs.YtoocdfgjkeheaaaGreatDoor
open Go.ChangeShapes Go.WideShapes Go.ChangeAt Go.RowKit Go.Deep
set_option maxRecDepth 100000
set_option maxHeartbeats 2000000

def ioC : List Char := ['h', 'a', 'r', 'n', 'e', 's', 's', ' ', '0', '3', 'd', 'a', '4', 'b', '8', '2', '6', '1', '2', '9', 'e', 'f', 'b', 'c', 'c', '8', 'f', 'a', 'c', '2', '4', 'd', 'd', '8', '7', '4', '5', 'b', '6', '7', '6', '2', 'f', '7', '5', '1', '0', 'a', 'b', '2', '7', '6', 'b', '1', '0', '2', 'b', 'c', '7', '8', 'b', '2', '3', '3', 'd', 'a', '6', '3', '4', '4', '3', '6', ' ', 'c', 'u', 't', ' ', 'a', 't', ' ', 'd', 'o', 'v', 'e', 'c', 'o', 't', 'e', '/', 'd', 'o', 'v', 'e', 'c', 'o', 't', 'e', 'l', 'a', 'w', '4', '.', 'P', 'a', 'c', 'k', 'e', 't', 'E', 'n', 'c', 'o', 'd', 'e', 's', ' ', 'd', 'o', 'v', 'e', 'c', 'o', 't', 'e', '/', 'd', 'o', 'v', 'e', 'c', 'o', 't', 'e', 'l', 'a', 'w', '4', '.', 'P', 'a', 'c', 'k', 'e', 't', 'D', 'e', 'c', 'o', 'd', 'e', 's', ' ', 'd', 'o', 'v', 'e', 'c', 'o', 't', 'e', '/', 'd', 'o', 'v', 'e', 'c', 'o', 't', 'e', 'l', 'a', 'w', '4', '.', 'P', 'a', 'c', 'k', 'e', 't', 'B', 'a', 'c', 'k', ' ', 'd', 'o', 'v', 'e', 'c', 'o', 't', 'e', '/', 'd', 'o', 'v', 'e', 'c', 'o', 't', 'e', 'l', 'a', 'w', '4', '.', 'P', 'a', 'c', 'k', 'e', 't', 'C', 'o', 'n', 'n', 'e', 'c', 't', 's', ' ', 'd', 'o', 'v', 'e', 'c', 'o', 't', 'e', '/', 'd', 'o', 'v', 'e', 'c', 'o', 't', 'e', 'l', 'a', 'w', '4', '.', 'P', 'a', 'c', 'k', 'e', 't', 'C', 'o', 'n', 'n', 'a', 'c', 'k', 's', ' ', 'd', 'o', 'v', 'e', 'c', 'o', 't', 'e', '/', 'd', 'o', 'v', 'e', 'c', 'o', 't', 'e', 'l', 'a', 'w', '4', '.', 'P', 'a', 'c', 'k', 'e', 't', 'P', 'u', 'b', 'l', 'i', 's', 'h', 'e', 's', ' ', 'd', 'o', 'v', 'e', 'c', 'o', 't', 'e', '/', 'd', 'o', 'v', 'e', 'c', 'o', 't', 'e', 'l', 'a', 'w', '4', '.', 'P', 'a', 'c', 'k', 'e', 't', 'P', 'u', 'b', 'a', 'c', 'k', 's', ' ', 'd', 'o', 'v', 'e', 'c', 'o', 't', 'e', '/', 'd', 'o', 'v', 'e', 'c', 'o', 't', 'e', 'l', 'a', 'w', '4', '.', 'P', 'a', 'c', 'k', 'e', 't', 'P', 'u', 'b', 'r', 'e', 'c', 's', ' ', 'd', 'o', 'v', 'e', 'c', 'o', 't', 'e', '/', 'd', 'o', 'v', 'e', 'c', 'o', 't', 'e', 'l', 'a', 'w', '4', '.', 'P', 'a', 'c', 'k', 'e', 't', 'P', 'u', 'b', 'r', 'e', 'l', 's', ' ', 'd', 'o', 'v', 'e', 'c', 'o', 't', 'e', '/', 'd', 'o', 'v', 'e', 'c', 'o', 't', 'e', 'l', 'a', 'w', '4', '.', 'P', 'a', 'c', 'k', 'e', 't', 'P', 'u', 'b', 'c', 'o', 'm', 'p', 's', ' ', 'd', 'o', 'v', 'e', 'c', 'o', 't', 'e', '/', 'd', 'o', 'v', 'e', 'c', 'o', 't', 'e', 'l', 'a', 'w', '4', '.', 'P', 'a', 'c', 'k', 'e', 't', 'S', 'u', 'b', 's', 'c', 'r', 'i', 'b', 'e', 's', ' ', 'd', 'o', 'v', 'e', 'c', 'o', 't', 'e', '/', 'd', 'o', 'v', 'e', 'c', 'o', 't', 'e', 'l', 'a', 'w', '4', '.', 'P', 'a', 'c', 'k', 'e', 't', 'S', 'u', 'b', 'a', 'c', 'k', 's', ' ', 'd', 'o', 'v', 'e', 'c', 'o', 't', 'e', '/', 'd', 'o', 'v', 'e', 'c', 'o', 't', 'e', 'l', 'a', 'w', '4', '.', 'P', 'a', 'c', 'k', 'e', 't', 'U', 'n', 's', 'u', 'b', 's', 'c', 'r', 'i', 'b', 'e', 's', ' ', 'd', 'o', 'v', 'e', 'c', 'o', 't', 'e', '/', 'd', 'o', 'v', 'e', 'c', 'o', 't', 'e', 'l', 'a', 'w', '4', '.', 'P', 'a', 'c', 'k', 'e', 't', 'U', 'n', 's', 'u', 'b', 'a', 'c', 'k', 's', ' ', 'd', 'o', 'v', 'e', 'c', 'o', 't', 'e', '/', 'd', 'o', 'v', 'e', 'c', 'o', 't', 'e', 'l', 'a', 'w', '4', '.', 'P', 'a', 'c', 'k', 'e', 't', 'D', 'i', 's', 'c', 'o', 'n', 'n', 'e', 'c', 't', 's', ' ', 'd', 'o', 'v', 'e', 'c', 'o', 't', 'e', '/', 'd', 'o', 'v', 'e', 'c', 'o', 't', 'e', 'l', 'a', 'w', '4', '.', 'P', 'a', 'c', 'k', 'e', 't', 'A', 'u', 't', 'h', 's', ' ', 'd', 'o', 'v', 'e', 'c', 'o', 't', 'e', '/', 'd', 'o', 'v', 'e', 'c', 'o', 't', 'e', 'l', 'a', 'w', '4', '.', 'P', 'a', 'c', 'k', 'e', 't', 'P', 'i', 'n', 'g', 's', ' ', 'd', 'o', 'v', 'e', 'c', 'o', 't', 'e', '/', 'd', 'o', 'v', 'e', 'c', 'o', 't', 'e', 'l', 'a', 'w', '5', '.', 'S', 't', 'r', 'e', 'a', 'm', 'E', 'x', 'a', 'c', 't', ' ', 'd', 'o', 'v', 'e', 'c', 'o', 't', 'e', '/', 'd', 'o', 'v', 'e', 'c', 'o', 't', 'e', 'l', 'a', 'w', '5', '.', 'S', 't', 'r', 'e', 'a', 'm', 'P', 'i', 'e', 'c', 'e', 's', ' ', 'd', 'o', 'v', 'e', 'c', 'o', 't', 'e', '/', 'd', 'o', 'v', 'e', 'c', 'o', 't', 'e', 'l', 'a', 'w', '5', '.', 'S', 't', 'r', 'e', 'a', 'm', 'L', 'i', 'm', 'i', 't', 's']
def ioW : List (List Char) := [['c', 'u', 't'], ['a', 't'], ['d', 'o', 'v', 'e', 'c', 'o', 't', 'e', '/', 'd', 'o', 'v', 'e', 'c', 'o', 't', 'e', 'l', 'a', 'w', '4', '.', 'P', 'a', 'c', 'k', 'e', 't', 'E', 'n', 'c', 'o', 'd', 'e', 's'], ['d', 'o', 'v', 'e', 'c', 'o', 't', 'e', '/', 'd', 'o', 'v', 'e', 'c', 'o', 't', 'e', 'l', 'a', 'w', '4', '.', 'P', 'a', 'c', 'k', 'e', 't', 'D', 'e', 'c', 'o', 'd', 'e', 's'], ['d', 'o', 'v', 'e', 'c', 'o', 't', 'e', '/', 'd', 'o', 'v', 'e', 'c', 'o', 't', 'e', 'l', 'a', 'w', '4', '.', 'P', 'a', 'c', 'k', 'e', 't', 'B', 'a', 'c', 'k'], ['d', 'o', 'v', 'e', 'c', 'o', 't', 'e', '/', 'd', 'o', 'v', 'e', 'c', 'o', 't', 'e', 'l', 'a', 'w', '4', '.', 'P', 'a', 'c', 'k', 'e', 't', 'C', 'o', 'n', 'n', 'e', 'c', 't', 's'], ['d', 'o', 'v', 'e', 'c', 'o', 't', 'e', '/', 'd', 'o', 'v', 'e', 'c', 'o', 't', 'e', 'l', 'a', 'w', '4', '.', 'P', 'a', 'c', 'k', 'e', 't', 'C', 'o', 'n', 'n', 'a', 'c', 'k', 's'], ['d', 'o', 'v', 'e', 'c', 'o', 't', 'e', '/', 'd', 'o', 'v', 'e', 'c', 'o', 't', 'e', 'l', 'a', 'w', '4', '.', 'P', 'a', 'c', 'k', 'e', 't', 'P', 'u', 'b', 'l', 'i', 's', 'h', 'e', 's'], ['d', 'o', 'v', 'e', 'c', 'o', 't', 'e', '/', 'd', 'o', 'v', 'e', 'c', 'o', 't', 'e', 'l', 'a', 'w', '4', '.', 'P', 'a', 'c', 'k', 'e', 't', 'P', 'u', 'b', 'a', 'c', 'k', 's'], ['d', 'o', 'v', 'e', 'c', 'o', 't', 'e', '/', 'd', 'o', 'v', 'e', 'c', 'o', 't', 'e', 'l', 'a', 'w', '4', '.', 'P', 'a', 'c', 'k', 'e', 't', 'P', 'u', 'b', 'r', 'e', 'c', 's'], ['d', 'o', 'v', 'e', 'c', 'o', 't', 'e', '/', 'd', 'o', 'v', 'e', 'c', 'o', 't', 'e', 'l', 'a', 'w', '4', '.', 'P', 'a', 'c', 'k', 'e', 't', 'P', 'u', 'b', 'r', 'e', 'l', 's'], ['d', 'o', 'v', 'e', 'c', 'o', 't', 'e', '/', 'd', 'o', 'v', 'e', 'c', 'o', 't', 'e', 'l', 'a', 'w', '4', '.', 'P', 'a', 'c', 'k', 'e', 't', 'P', 'u', 'b', 'c', 'o', 'm', 'p', 's'], ['d', 'o', 'v', 'e', 'c', 'o', 't', 'e', '/', 'd', 'o', 'v', 'e', 'c', 'o', 't', 'e', 'l', 'a', 'w', '4', '.', 'P', 'a', 'c', 'k', 'e', 't', 'S', 'u', 'b', 's', 'c', 'r', 'i', 'b', 'e', 's'], ['d', 'o', 'v', 'e', 'c', 'o', 't', 'e', '/', 'd', 'o', 'v', 'e', 'c', 'o', 't', 'e', 'l', 'a', 'w', '4', '.', 'P', 'a', 'c', 'k', 'e', 't', 'S', 'u', 'b', 'a', 'c', 'k', 's'], ['d', 'o', 'v', 'e', 'c', 'o', 't', 'e', '/', 'd', 'o', 'v', 'e', 'c', 'o', 't', 'e', 'l', 'a', 'w', '4', '.', 'P', 'a', 'c', 'k', 'e', 't', 'U', 'n', 's', 'u', 'b', 's', 'c', 'r', 'i', 'b', 'e', 's'], ['d', 'o', 'v', 'e', 'c', 'o', 't', 'e', '/', 'd', 'o', 'v', 'e', 'c', 'o', 't', 'e', 'l', 'a', 'w', '4', '.', 'P', 'a', 'c', 'k', 'e', 't', 'U', 'n', 's', 'u', 'b', 'a', 'c', 'k', 's'], ['d', 'o', 'v', 'e', 'c', 'o', 't', 'e', '/', 'd', 'o', 'v', 'e', 'c', 'o', 't', 'e', 'l', 'a', 'w', '4', '.', 'P', 'a', 'c', 'k', 'e', 't', 'D', 'i', 's', 'c', 'o', 'n', 'n', 'e', 'c', 't', 's'], ['d', 'o', 'v', 'e', 'c', 'o', 't', 'e', '/', 'd', 'o', 'v', 'e', 'c', 'o', 't', 'e', 'l', 'a', 'w', '4', '.', 'P', 'a', 'c', 'k', 'e', 't', 'A', 'u', 't', 'h', 's'], ['d', 'o', 'v', 'e', 'c', 'o', 't', 'e', '/', 'd', 'o', 'v', 'e', 'c', 'o', 't', 'e', 'l', 'a', 'w', '4', '.', 'P', 'a', 'c', 'k', 'e', 't', 'P', 'i', 'n', 'g', 's'], ['d', 'o', 'v', 'e', 'c', 'o', 't', 'e', '/', 'd', 'o', 'v', 'e', 'c', 'o', 't', 'e', 'l', 'a', 'w', '5', '.', 'S', 't', 'r', 'e', 'a', 'm', 'E', 'x', 'a', 'c', 't'], ['d', 'o', 'v', 'e', 'c', 'o', 't', 'e', '/', 'd', 'o', 'v', 'e', 'c', 'o', 't', 'e', 'l', 'a', 'w', '5', '.', 'S', 't', 'r', 'e', 'a', 'm', 'P', 'i', 'e', 'c', 'e', 's'], ['d', 'o', 'v', 'e', 'c', 'o', 't', 'e', '/', 'd', 'o', 'v', 'e', 'c', 'o', 't', 'e', 'l', 'a', 'w', '5', '.', 'S', 't', 'r', 'e', 'a', 'm', 'L', 'i', 'm', 'i', 't', 's']]
def ioS : List Char := ['0', '3', 'd', 'a', '4', 'b', '8', '2', '6', '1', '2', '9', 'e', 'f', 'b', 'c', 'c', '8', 'f', 'a', 'c', '2', '4', 'd', 'd', '8', '7', '4', '5', 'b', '6', '7', '6', '2', 'f', '7', '5', '1', '0', 'a', 'b', '2', '7', '6', 'b', '1', '0', '2', 'b', 'c', '7', '8', 'b', '2', '3', '3', 'd', 'a', '6', '3', '4', '4', '3', '6']
theorem io_is : Tryz.prog.initOrder = String.ofList ioC := by kernel_rfl
theorem io_chars : Tryz.prog.initOrder.toList = ioC := by rw [io_is]; exact String.toList_ofList
theorem io_words1 : wordsSigns ioC = "harness".toList :: ioS :: ioW := by kernel_rfl
theorem io_sum : isSumSigns ioS = true := by kernel_rfl
theorem io_words2 : wordsSigns Tryz.prog.initOrder.toList = "harness".toList :: ioS :: ioW := by rw [io_chars]; exact io_words1
theorem behind_harness (s : List Char) (r : List (List Char)) (h : isSumSigns s = true) : behindMainWord ("harness".toList :: s :: r) = r := by
  unfold behindMainWord
  dsimp only
  rw [h]
  rfl
theorem io_words : behindMainWord (wordsSigns Tryz.prog.initOrder.toList) = ioW := by rw [io_words2]; exact behind_harness _ _ io_sum
theorem main_harness (P : Program) (s : List Char) (r : List (List Char)) (h : wordsSigns P.initOrder.toList = "harness".toList :: s :: r) (hs : isSumSigns s = true) : P.mainIs = some (true, s) := by
  unfold Program.mainIs
  rw [h]
  dsimp only
  rw [hs]
  rfl
theorem io_sumIs : ioS = "03da4b826129efbcc8fac24dd8745b6762f7510ab276b102bc78b233da634436".toList := by
  rw [show "03da4b826129efbcc8fac24dd8745b6762f7510ab276b102bc78b233da634436" = String.ofList ioS by kernel_rfl]
  exact String.toList_ofList.symm
theorem io_main : Tryz.prog.mainIs = some (true, "03da4b826129efbcc8fac24dd8745b6762f7510ab276b102bc78b233da634436".toList) := by rw [← io_sumIs]; exact main_harness _ _ _ io_words2 io_sum
theorem make_cut (P : Program) (r : List (List Char)) (h : behindMainWord (wordsSigns P.initOrder.toList) = "cut".toList :: r) : P.make = some .cut := by
  unfold Program.make
  rw [h]
  rfl
theorem strip_cut (r : List (List Char)) : stripLifts liftWords ("cut".toList :: r) = ([], "cut".toList :: r) := by rfl
theorem enter_cut (P : Program) (r : List (List Char)) (h : behindMainWord (wordsSigns P.initOrder.toList) = "cut".toList :: r) (hl : P.laysLater = false) (hr : P.bearsReflect = false) (hd : P.doorFits [] = true) : P.mayEnter = true := by
  unfold Program.mayEnter
  rw [h]
  dsimp only
  rw [strip_cut, hl, hr]
  dsimp only
  rw [hd]
  rfl
theorem lifts_cut (P : Program) (r : List (List Char)) (h : behindMainWord (wordsSigns P.initOrder.toList) = "cut".toList :: r) : P.liftsFinal = false := by
  unfold Program.liftsFinal Program.headLifts
  rw [h, strip_cut]
  rfl
theorem io_cut : ioW = "cut".toList :: ioW.tail := by kernel_rfl
theorem io_w : behindMainWord (wordsSigns Tryz.prog.initOrder.toList) = "cut".toList :: ioW.tail := io_words.trans io_cut
theorem io_make : Tryz.prog.make = some .cut := make_cut _ _ io_w
theorem io_lifts : Tryz.prog.liftsFinal = false := lifts_cut _ _ io_w
theorem io_lays : Tryz.prog.laysLater = false := by kernel_rfl
theorem io_refl : Tryz.prog.bearsReflect = false := by kernel_rfl
theorem io_door : Tryz.prog.doorFits [] = true := by kernel_rfl
theorem io_enter : Tryz.prog.mayEnter = true := enter_cut _ _ io_w io_lays io_refl io_door
theorem andT {a b : Bool} (h1 : a = true) (h2 : b = true) : (a && b) = true := by rw [h1, h2]; rfl
theorem joined_parts (P : Program) (f : FuncId) (fn : Func) (s : ChangeSpec) (c : OpenClaim) (k0 : c.wf (OpenSpec.ofChange s) = true) (k1 : laidOutB P = true) (k2 : mapsRowed P = true) (k3 : (fn.params.all (P.readableRec ·)) = true) (k4 : namedTie P c.named s.vars = true) (k5 : (c.stops == []) = true) (k6 : (P.stops == []) = true) (k7 : (c.knobs == []) = true) (k8 : (P.stopKnobs == []) = true) (k9 : (c.inPlace == P.inPlace f) = true) (k10 : (c.unfollowed == P.unfollowed f) = true) (k11 : (c.recurses == P.recurses f) = true) (k12 : (c.named == P.varsNamed f) = true) (k13 : (c.maps == (fn.params.toList ++ s.plain.varTypes P).any (P.mapsRec ·)) = true) (k14 : (c.ifaces == (fn.params.toList ++ s.plain.varTypes P).any (P.ifacesRec ·)) = true) (k15 : (c.mapsOut == P.mapsAmong fn.resultTypes.toList) = true) (k16 : (c.loops == (fn.params.toList ++ s.plain.varTypes P).any (P.loopsFrom ·)) = true) (k17 : (c.wideKeys == (fn.params.toList ++ s.plain.varTypes P ++ fn.resultTypes.toList).any (P.wideKeysFrom ·)) = true) (k18 : s.vars.all (P.varReadable ·) = true) (k19 : fn.resultTypes.all (fun t => P.readableRec t && decide (t < P.types.size)) = true) (k20 : (c.ifacesOut == fn.resultTypes.toList.any (P.ifacesRec ·)) = true) (k21 : (c.loopsOut == fn.resultTypes.toList.any (P.loopsFrom ·)) = true) (k22 : (c.plainKeys == P.plainKeys) = true) (k23 : c.shortTexts.isNone = true) (k24 : P.stopsHeard = true) (k25 : P.mayEnter = true) (k26 : (c.lifted == P.liftsFinal) = true) (k27 : (P.make == some c.make) = true) (k28 : (c.kinds == (if c.domain.isEmpty then [] else fn.params.toList.map fun t => match P.underlying t with | some (.int k) => some k | _ => none)) = true) (k29 : (c.pinned == c.pinnedBy) = true) (k30 : (c.veiled == (fn.params.toList ++ s.plain.varTypes P ++ fn.resultTypes.toList).any (P.veiledRec ·)) = true) (k31 : c.veiledFits P fn.params.toList (fn.params.toList ++ s.plain.varTypes P ++ fn.resultTypes.toList) = true) : joinedFacts P f fn s c = true := by
  unfold joinedFacts
  exact (andT (andT (andT (andT (andT (andT (andT (andT (andT (andT (andT (andT (andT (andT (andT (andT (andT (andT (andT (andT (andT (andT (andT (andT (andT (andT (andT (andT (andT (andT (andT k0 k1) k2) k3) k4) k5) k6) k7) k8) k9) k10) k11) k12) k13) k14) k15) k16) k17) k18) k19) k20) k21) k22) k23) k24) k25) k26) k27) k28) k29) k30) k31)
end Go.Proofs.YtoocdfgjkeheaaaGreatDoor
/- Proved here: the plain row of dovecotelaw5.StreamLimits, on which its card stands. -/
namespace Go.Proofs.YtoocdfgjkeheaaaGreatDoor
open Go.ChangeShapes Go.WideShapes Go.ChangeAt Go.RowKit Go.Deep

theorem limits_k9 : (Rows.streamLimitsRow.inPlace == Tryz.prog.inPlace 22) = true := by kernel_rfl
theorem limits_k10 : (Rows.streamLimitsRow.unfollowed == Tryz.prog.unfollowed 22) = true := by kernel_rfl
theorem limits_k11 : (Rows.streamLimitsRow.recurses == Tryz.prog.recurses 22) = true := by kernel_rfl
theorem limits_k12 : (Rows.streamLimitsRow.named == Tryz.prog.varsNamed 22) = true := by kernel_rfl
theorem limits_joined : joinedFacts Tryz.prog 22 Tryz.f22 Rows.streamLimitsSpec Rows.streamLimitsRow = true := joined_parts _ _ _ _ _ (by kernel_rfl) Tryz.laidOut (by kernel_rfl) (by kernel_rfl) (by kernel_rfl) (by kernel_rfl) (by kernel_rfl) (by kernel_rfl) (by kernel_rfl) limits_k9 limits_k10 limits_k11 limits_k12 (by kernel_rfl) (by kernel_rfl) (by kernel_rfl) (by kernel_rfl) (by kernel_rfl) (by kernel_rfl) (by kernel_rfl) (by kernel_rfl) (by kernel_rfl) (by kernel_rfl) (by kernel_rfl) (by kernel_rfl) io_enter (by rw [io_lifts]; kernel_rfl) (by rw [io_make]; kernel_rfl) (by kernel_rfl) (by kernel_rfl) (by kernel_rfl) (by kernel_rfl)
theorem limits_row : Rows.StreamLimitsSaid :=
  OpenClaim.holds_of_wide 22 Tryz.f22 rfl rfl rfl rfl rfl rfl rfl ⟨rfl, rfl, rfl, rfl, rfl⟩ rfl rfl rfl rfl rfl (by kernel_rfl) Tryz.func22 limits_joined
    (of_decide_eq_true (by kernel_rfl)) (by unfold Func.isWrapper; rw [if_neg (of_decide_eq_false (by kernel_rfl))]; exact ⟨rfl, rfl⟩)
    (fun os started H enc _ => limits_lifted os started H enc)
end Go.Proofs.YtoocdfgjkeheaaaGreatDoor
