/- Proved here: helpers, one text behind the other. -/
import Derived.Test.YtpfpollejhdbgaaDoorM4
import Derived.Test.YtpfpollejhdbgaaDoorM3
import Derived.Deep.WholeRow
import Derived.Handy
import Derived.Test.YtpfpollejhdbgaaDoorRows
import Derived.Test.YtpfpollejhdbgaaDoorZBase
import Derived.Test.YtpfpollejhdbgaaDoorM1
import Derived.ProofKit
import Derived.SizedLaws
import Derived.Deep.SlicePairs
import Derived.ChangeSame
import Derived.ChangeVars
import Derived.JoinedOf
import Derived.RowKit
import Derived.RowKitTokens
import Derived.LaidLaws
import Derived.LaidHandle
import Derived.Stop.Joined
import Derived.Laws.StructEq
/- Proved here: prop.putOne tells the bytes of a property that may be, or an error of below where a text may not be. Helper contracts. -/
namespace Go.Proofs.YtpfpollejhdbgaaDoor
open Go.RowKit
set_option maxRecDepth 100000

theorem lst_pos (id : Int) : 0 ≤ lst id := by unfold lst; split <;> omega
theorem fit_num {id n : Int} {s t : ByteArray} (h : fit (id, n, s, t) = true) : 0 ≤ n ∧ lst id ≤ n ∧ n ≤ mx id := by
  unfold fit at h
  rw [Bool.and_eq_true, Bool.and_eq_true, decide_eq_true_eq, decide_eq_true_eq] at h
  have := lst_pos id
  have h1 := h.1
  simp only at h1
  omega
theorem shv_of (id k f wd m : Int) (hk : kd id = k) (hf : (if k = 1 ∨ k = 2 ∨ k = 4 then 1 else if k = 5 then 2 else if k = 6 then 3 else if k = 7 then 4 else if k = 8 then 5 else 0) = f) (hw : (if k = 1 ∨ k = 2 ∨ k = 4 then k else 0) = wd) (hm : mx id = m) : shv id = .agg #[.int .i64 f, .int .i64 wd, .int .i64 (lst id), .int .i64 m] := by
  unfold shv frm wid
  rw [hk, hf, hw, hm]
theorem pvb_num (id n : Int) (s t : ByteArray) (k : Int) (hk : kd id = k) (h : k = 1 ∨ k = 2 ∨ k = 4) : pvb (id, n, s, t) = nbs k n := by
  unfold pvb nbs
  rcases h with rfl | rfl | rfl <;> simp [hk]
theorem value_ok (id n : Int) (s t : ByteArray) (w : World) (hm : may (id, n, s, t) = true) : Calls Tryd.prog 58 #[.agg #[.int .i64 id, .int .i64 n, .string s, .string t]] w (ValOk (pvb (id, n, s, t)) w) := by
  unfold may at hm
  rw [Bool.and_eq_true] at hm
  obtain ⟨hf, ht⟩ := hm
  obtain ⟨h0, h1, h2⟩ := fit_num hf
  have hx : mx id = (if kd id = 1 then 1 else if kd id = 2 then 65535 else if kd id = 4 then 4294967295 else if kd id = 5 then 268435455 else 0) := rfl
  rcases kd_cases id with h | h | h | h | h | h | h | h
  · unfold txo at ht; simp [h] at ht
  · rw [pvb_num id n s t 1 h (by omega)]
    rw [if_pos h] at hx
    exact value_num id n 1 s t w _ _ (shv_of id 1 1 1 1 h rfl rfl hx) (.inl ⟨rfl, by omega⟩) h0
  · rw [pvb_num id n s t 2 h (by omega)]
    rw [if_neg (by omega), if_pos h] at hx
    exact value_num id n 2 s t w _ _ (shv_of id 2 1 2 65535 h rfl rfl hx) (.inr (.inl ⟨rfl, by omega⟩)) h0
  · rw [pvb_num id n s t 4 h (by omega)]
    rw [if_neg (by omega), if_neg (by omega), if_pos h] at hx
    exact value_num id n 4 s t w _ _ (shv_of id 4 1 4 4294967295 h rfl rfl hx) (.inr (.inr ⟨rfl, by omega⟩)) h0
  · rw [show pvb (id, n, s, t) = V.put n from by unfold pvb; simp [h]]
    rw [if_neg (by omega), if_neg (by omega), if_neg (by omega), if_pos h] at hx
    exact value_var id n s t w _ _ _ (shv_of id 5 2 0 _ h rfl rfl hx) h0 (by omega)
  · rw [show pvb (id, n, s, t) = tx s from by unfold pvb; simp [h]]
    rw [if_neg (by omega), if_neg (by omega), if_neg (by omega), if_neg (by omega)] at hx
    exact value_text id n s t w _ _ _ (shv_of id 6 3 0 _ h rfl rfl hx) (by unfold txo at ht; simpa [h] using ht)
  · rw [show pvb (id, n, s, t) = tx s from by unfold pvb; simp [h]]
    rw [if_neg (by omega), if_neg (by omega), if_neg (by omega), if_neg (by omega)] at hx
    exact value_bin id n s t w _ _ _ (shv_of id 7 4 0 _ h rfl rfl hx) (by unfold txo at ht; simpa [h] using ht)
  · rw [show pvb (id, n, s, t) = tx s ++ tx t from by unfold pvb; simp [h]]
    rw [if_neg (by omega), if_neg (by omega), if_neg (by omega), if_neg (by omega)] at hx
    have hc : chk (sb s) = 0 ∧ chk (sb t) = 0 := by unfold txo at ht; simpa [h] using ht
    exact value_pair id n s t w _ _ _ (shv_of id 8 5 0 _ h rfl rfl hx) hc.1 hc.2
theorem value_bad (id n : Int) (s t : ByteArray) (w : World) (hls : s.size ≤ 4611686018427387904) (hlt : t.size ≤ 4611686018427387904) (hk : kd id ≠ 0) (ht : txo (id, n, s, t) = false) : Calls Tryd.prog 58 #[.agg #[.int .i64 id, .int .i64 n, .string s, .string t]] w (ValBad w) := by
  have hx : mx id = (if kd id = 1 then 1 else if kd id = 2 then 65535 else if kd id = 4 then 4294967295 else if kd id = 5 then 268435455 else 0) := rfl
  rcases kd_cases id with h | h | h | h | h | h | h | h
  · exact absurd h hk
  · unfold txo at ht; simp [h] at ht
  · unfold txo at ht; simp [h] at ht
  · unfold txo at ht; simp [h] at ht
  · unfold txo at ht; simp [h] at ht
  · rw [if_neg (by omega), if_neg (by omega), if_neg (by omega), if_neg (by omega)] at hx
    exact value_text_bad id n s t w _ _ _ (shv_of id 6 3 0 _ h rfl rfl hx) hls (by unfold txo at ht; simpa [h] using ht)
  · rw [if_neg (by omega), if_neg (by omega), if_neg (by omega), if_neg (by omega)] at hx
    exact value_bin_bad id n s t w _ _ _ (shv_of id 7 4 0 _ h rfl rfl hx) (by unfold txo at ht; simpa [h] using ht)
  · rw [if_neg (by omega), if_neg (by omega), if_neg (by omega), if_neg (by omega)] at hx
    have hc : chk (sb s) = 0 → ¬ chk (sb t) = 0 := by unfold txo at ht; simpa [h] using ht
    by_cases hs : chk (sb s) = 0
    · exact value_pair_bad2 id n s t w _ _ _ (shv_of id 8 5 0 _ h rfl rfl hx) hlt hs (hc hs)
    · exact value_pair_bad1 id n s t w _ _ _ (shv_of id 8 5 0 _ h rfl rfl hx) hls hs
theorem pvb_range (id n : Int) (s t : ByteArray) (w : World) (v : Value) (h : Byt w v (pvb (id, n, s, t))) : ∀ j, 0 ≤ (pvb (id, n, s, t)).getD j 0 ∧ (pvb (id, n, s, t)).getD j 0 ≤ 255 := h.range
set_option maxHeartbeats 1000000 in
theorem one_ok (id n : Int) (s t : ByteArray) (w : World) (hi : 1 ≤ id ∧ id ≤ 42) (hm : may (id, n, s, t) = true) : Calls Tryd.prog 44 #[.agg #[.int .i64 id, .int .i64 n, .string s, .string t]] w (ValOk (pb (id, n, s, t)) w) := by
  have hle := pvb_le _ hm
  have HM := hide hm
  have HV := hide (fun W => value_ok id n s t W hm)
  have HL := hide (V.put_len id)
  have HP : Hid (pb (id, n, s, t) = V.put id ++ pvb (id, n, s, t)) := rfl
  generalize pb (id, n, s, t) = l at HP ⊢
  generalize pvb (id, n, s, t) = l2 at HP HV hle
  clear hm HM
  go_enter Tryd.func44, Tryd.ntmps44
  go_wp2_with fail
  refine (vput_use id _ (by omega) (by omega)).mono ?_
  rintro e w1 ⟨v1, rfl, hown1, hy1, hb1⟩
  have HR := hide (unhide hy1).range
  have HB1 : Hid (Below w.heap.size w w1) := ((Below.refl _ _).alloc (Nat.le_refl _) _).trans (hb1.mono (by simp))
  have c0 : w1.cell? ⟨w.heap.size, 0, none⟩ = some (.int .i64 id) := (hb1.cell (p := ⟨w.heap.size, 0, none⟩) (by simp)).trans (by simp)
  have c1 : w1.cell? ⟨w.heap.size, 1, none⟩ = some (.int .i64 n) := (hb1.cell (p := ⟨w.heap.size, 1, none⟩) (by simp)).trans (by simp)
  have c2 : w1.cell? ⟨w.heap.size, 2, none⟩ = some (.string s) := (hb1.cell (p := ⟨w.heap.size, 2, none⟩) (by simp)).trans (by simp)
  have c3 : w1.cell? ⟨w.heap.size, 3, none⟩ = some (.string t) := (hb1.cell (p := ⟨w.heap.size, 3, none⟩) (by simp)).trans (by simp)
  have HO1 : Hid (w1.ownsRow w.heap.size 5 1 v1 (V.put id).length ((V.put id).map (Value.int .u8))) := owns_mono (unhide hown1) (by simp)
  clear hb1 hown1 hy1
  go_wp2_with fail
  refine ((unhide HV) _).mono ?_
  rintro e w2 ⟨v2, rfl, hy2, hb2⟩
  have HO2 : Hid (w2.ownsRow w.heap.size 5 1 v1 (V.put id).length ((V.put id).map (Value.int .u8))) := owns_below (unhide HO1) hb2
  have HB2 : Hid (Below w.heap.size w w2) := (unhide HB1).trans (hb2.mono (unhide HB1).size)
  clear hb2 HB1 HO1 c0 c1 c2 c3
  go_wp2_with (first
    | (at_builtin; refine wpList_append_byt _ rfl _ _ rfl w.heap.size _ (V.put id).length (V.put id) rfl (unhide HO2) v2 l2 rfl (unhide hy2) (by have := unhide HL; omega) (unhide HB2).size ?_)
    | go_in)
  intro v3 w3 hown3 hgrow3
  have hb3 : Below w.heap.size w w3 := (unhide HB2).grown hgrow3 (unhide HB2).size (fun k hk => ((unhide HO2).lt k hk).1)
  have HY3 : Hid (Byt w3 v3 l) := by
    show Byt _ _ _
    rw [unhide HP]
    exact byt_of_owns (by rw [List.map_append]; exact hown3) (range_app (unhide HR) (unhide hy2).range)
  clear hown3 hgrow3
  go_wp2
  go_ret2
  exact ⟨_, rfl, HY3, hb3⟩
theorem one_bad (id n : Int) (s t : ByteArray) (w : World) (hi : 1 ≤ id ∧ id ≤ 42) (hls : s.size ≤ 4611686018427387904) (hlt : t.size ≤ 4611686018427387904) (hk : kd id ≠ 0) (ht : txo (id, n, s, t) = false) : Calls Tryd.prog 44 #[.agg #[.int .i64 id, .int .i64 n, .string s, .string t]] w (ValBad w) := by
  have HV := hide (fun W => value_bad id n s t W hls hlt hk ht)
  clear hls hlt hk ht
  go_enter Tryd.func44, Tryd.ntmps44
  go_wp2_with fail
  refine (vput_use id _ (by omega) (by omega)).mono ?_
  rintro e w1 ⟨v1, rfl, -, -, hb1⟩
  have HB1 : Hid (Below w.heap.size w w1) := ((Below.refl _ _).alloc (Nat.le_refl _) _).trans (hb1.mono (by simp))
  have c0 : w1.cell? ⟨w.heap.size, 0, none⟩ = some (.int .i64 id) := (hb1.cell (p := ⟨w.heap.size, 0, none⟩) (by simp)).trans (by simp)
  have c1 : w1.cell? ⟨w.heap.size, 1, none⟩ = some (.int .i64 n) := (hb1.cell (p := ⟨w.heap.size, 1, none⟩) (by simp)).trans (by simp)
  have c2 : w1.cell? ⟨w.heap.size, 2, none⟩ = some (.string s) := (hb1.cell (p := ⟨w.heap.size, 2, none⟩) (by simp)).trans (by simp)
  have c3 : w1.cell? ⟨w.heap.size, 3, none⟩ = some (.string t) := (hb1.cell (p := ⟨w.heap.size, 3, none⟩) (by simp)).trans (by simp)
  clear hb1
  go_wp2_with fail
  refine ((unhide HV) _).mono ?_
  rintro e w2 ⟨t2, x2, m, rfl, hi2, hb2⟩
  go_wp2
  go_ret2
  exact ⟨_, _, _, rfl, hi2, (unhide HB1).trans (hb2.mono (unhide HB1).size)⟩
end Go.Proofs.YtpfpollejhdbgaaDoor
/- Proved here: a new row (prop.row: a place, and 43 flags), built, laid and stored as one: laws for a walk's three operations. Helpers. -/
namespace Go.Proofs.YtpfpollejhdbgaaDoor
open Go.RowKit
set_option maxRecDepth 100000

theorem wpList_value {P : Program} {ops : Array Oper} {rest : List Oper} {o : Oper} {a : Act} {w w' : World} {v : Value} {Q : Exit → Act → World → Prop} (hg : o.guard = none) (hr : (execOp a.eval o).run P w = .ok (.value v) w') (h : wpList P ops Q rest (a.put o.dst v) w') : wpList P ops Q (o :: rest) a w :=
  wpList_plain hg fun K hK => by unfold Oper.wp; rw [hr]; exact hK _ _ h
theorem wpList_skip {P : Program} {ops : Array Oper} {rest : List Oper} {o : Oper} {a : Act} {w w' : World} {Q : Exit → Act → World → Prop} (hg : o.guard = none) (hr : (execOp a.eval o).run P w = .ok .skip w') (h : wpList P ops Q rest (a.put o.dst undef) w') : wpList P ops Q (o :: rest) a w :=
  wpList_plain hg fun K hK => by unfold Oper.wp; rw [hr]; exact hK _ _ h
/-- a row in which nothing has come -/
def rowA (place : Int) : Array Value := #[.int .i64 place] ++ Array.replicate 43 (.bool false)
theorem rowA_size (place : Int) : (rowA place).size = 44 := by simp [rowA]
theorem rowA_one (place : Int) : (rowA place).all (·.oneCell') = true := by kernel_rfl
theorem rowA_lit (place : Int) : rowA place = #[.int .i64 place, .bool false, .bool false, .bool false, .bool false, .bool false, .bool false, .bool false, .bool false, .bool false, .bool false, .bool false, .bool false, .bool false, .bool false, .bool false, .bool false, .bool false, .bool false, .bool false, .bool false, .bool false, .bool false, .bool false, .bool false, .bool false, .bool false, .bool false, .bool false, .bool false, .bool false, .bool false, .bool false, .bool false, .bool false, .bool false, .bool false, .bool false, .bool false, .bool false, .bool false, .bool false, .bool false, .bool false] := by kernel_rfl
theorem row_build (a : Act) (dst : Option Tmp) (x : Operand) (ty : TypeId) (pos : String) (after : Array Edge) (place : Int) (hx : a.eval x = .int .i64 place) (w : World) :
    (execOp a.eval ⟨dst, .build 76 #[(0, x)], ty, pos, after, none⟩).run Tryd.prog w = .ok (.value (.agg (rowA place))) w := by
  unfold execOp
  simp only [List.map_toArray, List.map_cons, List.map_nil, hx]
  kernel_rfl
theorem row_alloc (ρ : Operand → Value) (dst : Option Tmp) (ty : TypeId) (pos : String) (after : Array Edge) (w : World) :
    (execOp ρ ⟨dst, .alloc 76, ty, pos, after, none⟩).run Tryd.prog w = .ok (.value (.pointer (some ⟨w.heap.size, 0, none⟩))) (w.alloc (.cells (rowA 0) 76)) := by
  kernel_rfl
theorem row_size : (Tryd.prog.info? 76).map (·.size) = some 44 := by kernel_rfl
theorem row_store (a : Act) (dst : Option Tmp) (x y : Operand) (ty : TypeId) (pos : String) (after : Array Edge) (place : Int) (w : World) (hx : a.eval x = .pointer (some ⟨w.heap.size, 0, none⟩)) (hy : a.eval y = .agg (rowA place)) :
    (execOp a.eval ⟨dst, .store 76 x y, ty, pos, after, none⟩).run Tryd.prog (w.alloc (.cells (rowA 0) 76)) = .ok .skip (w.alloc (.cells (rowA place) 76)) := by
  show Sem.run Tryd.prog (do Instr.storeAt 76 (a.eval x) (a.eval y); pure Next.skip) _ = _
  rw [hx, hy]
  simp only [Sem.run_bind]
  rw [run_storeAt_new w 76 (rowA 0) (rowA place) (by rw [row_size, rowA_size]) (by rw [rowA_size, rowA_size]) (rowA_one place)]
  rfl
end Go.Proofs.YtpfpollejhdbgaaDoor
/- Proved here: prop.tell tells the bytes of properties that may stand, or an error around ErrForm. Helper contracts. -/
namespace Go.Proofs.YtpfpollejhdbgaaDoor
open Go.RowKit
set_option maxRecDepth 100000

/-- the row of what has come so far -/
def RowAt (w : World) (R : Nat) (place : Int) (f : Nat → Bool) : Prop :=
  w.cell? ⟨R, 0, none⟩ = some (.int .i64 place) ∧ ∀ j, j ≤ 42 → w.cell? ⟨R, 1 + j, none⟩ = some (.bool (f j)) ∧ w.frozen? ⟨R, 1 + j, none⟩ = false
theorem RowAt.lt {w : World} {R : Nat} {place : Int} {f : Nat → Bool} (h : RowAt w R place f) : R < w.heap.size := cell_lt h.1
theorem RowAt.below {w w' : World} {R : Nat} {place : Int} {f : Nat → Bool} (h : RowAt w R place f) (hb : Below w.heap.size w w') : RowAt w' R place f := by
  have hl := h.lt
  exact ⟨(hb.cell (p := ⟨R, 0, none⟩) hl).trans h.1, fun j hj => ⟨(hb.cell (p := ⟨R, 1 + j, none⟩) hl).trans (h.2 j hj).1, (hb.frozen (p := ⟨R, 1 + j, none⟩) hl).trans (h.2 j hj).2⟩⟩
theorem RowAt.set {w : World} {R : Nat} {place : Int} {f : Nat → Bool} (h : RowAt w R place f) (k : Nat) (hk : k ≤ 42) : RowAt (w.setCell ⟨R, 1 + k, none⟩ (.bool true)) R place (fun j => f j || decide (k = j)) := by
  refine ⟨?_, fun j hj => ⟨?_, ?_⟩⟩
  · rw [World.cell?_setCell_other _ _ _ _ (by intro e; simp at e)]; exact h.1
  · by_cases e : k = j
    · subst e
      rw [World.cell?_setCell_same _ _ _ (h.2 k hj).1]; simp
    · rw [World.cell?_setCell_other _ _ _ _ (fun e' => e (by injection e' with _ h2; omega)), (h.2 j hj).1]; simp [e]
  · rw [World.frozen?_setCell]; exact (h.2 j hj).2
theorem RowAt.congr {w : World} {R : Nat} {place : Int} {f g : Nat → Bool} (h : RowAt w R place f) (e : ∀ j, j ≤ 42 → f j = g j) : RowAt w R place g := ⟨h.1, fun j hj => by rw [← e j hj]; exact h.2 j hj⟩
theorem rowAt_new (w : World) (place : Int) : RowAt (w.alloc (.cells (rowA place) 76)) w.heap.size place (fun _ => false) := by
  refine ⟨by simp [rowA], fun j hj => ⟨?_, by simp⟩⟩
  rw [World.cell?_alloc_at _ _ _ _ rfl]
  unfold rowA
  rw [Array.getElem?_append_right (by simp)]
  rw [Array.getElem?_replicate, if_pos (show 1 + j - #[Value.int IntKind.i64 place].size < 43 from by simp; omega)]
theorem owns_set {w : World} {B : Nat} {e : TypeId} {s : Nat} {v : Value} {n : Nat} {xs : List Value} (h : w.ownsRow B e s v n xs) (p : Addr) (u : Value) (hp : p.block < B) : (w.setCell p u).ownsRow B e s v n xs := by
  refine ⟨h.1, ?_⟩
  rcases h.2 with h1 | ⟨g, cap, cur, hv, hB, hg, rest⟩
  · exact .inl h1
  · exact .inr ⟨g, cap, cur, hv, hB, by rw [Below.heap_setCell w p u g (by omega)]; exact hg, rest⟩

theorem row_grown {w w' : World} {R : Nat} {place : Int} {f : Nat → Bool} {o : Option Nat} (h : RowAt w R place f) (hg : w.grownBy w' o) (ho : ∀ g, o = some g → g ≠ R) : RowAt w' R place f := by
  have hb : w'.heap[R]? = w.heap[R]? := hg.block R h.lt (fun e => ho R e.symm rfl)
  exact ⟨(World.cell?_of_block (w := w) (a := ⟨R, 0, none⟩) hb).trans h.1, fun j hj => ⟨(World.cell?_of_block (w := w) (a := ⟨R, 1 + j, none⟩) hb).trans (h.2 j hj).1, (World.frozen?_of_block (w := w) (a := ⟨R, 1 + j, none⟩) hb).trans (h.2 j hj).2⟩⟩
theorem take_min (l : List Pr) (k : Nat) (h : l.length = k) : l.take 32 = l.take (min k 32) := by
  rcases Nat.le_total k 32 with a | a
  · rw [Nat.min_eq_left a, List.take_of_length_le (by omega), List.take_of_length_le (by omega)]
  · rw [Nat.min_eq_right a]
/-- what take says of a property -/
def tk (place id n : Int) (s t : ByteArray) (sn : Bool) : Bool := mst id place && fit (id, n, s, t) && (rep id place || !sn)
theorem take_bad (R : Nat) (place id n : Int) (s t : ByteArray) (f : Nat → Bool) (w : World) (hR : RowAt w R place f) (h : tk place id n s t (f id.toNat) = false) :
    Calls Tryd.prog 43 #[.pointer (some ⟨R, 0, none⟩), .agg #[.int .i64 id, .int .i64 n, .string s, .string t]] w (TakeNo w) := by
  unfold tk at h
  by_cases hm : mst id place = true
  · by_cases hf : fit (id, n, s, t) = true
    · obtain ⟨h1, h2⟩ := id_range id place hm
      obtain ⟨k, rfl⟩ : ∃ k : Nat, id = k := ⟨id.toNat, by omega⟩
      rw [hm, hf] at h
      simp only [Bool.and_true, Bool.true_and, Int.toNat_natCast, Bool.or_eq_false_iff, Bool.not_eq_false'] at h
      exact take_no3 R k place n s t w (by omega) hR.1 (by rw [(hR.2 k (by omega)).1, h.2]) hm hf h.1
    · exact take_no2 R place id n s t w hR.1 hm (by simpa using hf)
  · exact take_no1 R place id n s t w hR.1 (by simpa using hm)
theorem take_good (R k : Nat) (place n : Int) (s t : ByteArray) (f : Nat → Bool) (w : World) (hk : k ≤ 42) (hR : RowAt w R place f) (h : tk place k n s t (f k) = true) :
    Calls Tryd.prog 43 #[.pointer (some ⟨R, 0, none⟩), .agg #[.int .i64 (k : Int), .int .i64 n, .string s, .string t]] w fun e w' => e = .returned .nilIface ∧ ∃ w1, Below w.heap.size w w1 ∧ w' = w1.setCell ⟨R, 1 + k, none⟩ (.bool true) := by
  unfold tk at h
  rw [Bool.and_eq_true, Bool.and_eq_true] at h
  obtain ⟨⟨hm, hf⟩, hr⟩ := h
  have hc := (hR.2 k hk).1
  have hz := (hR.2 k hk).2
  cases hs : f k
  · rw [hs] at hc
    exact take_ok0 R k place n s t w hk hR.1 hc hz hm hf
  · rw [hs] at hc hr
    exact take_ok1 R k place n s t w hk hR.1 hc hz hm hf (by simpa using hr)
/-- .. as tell and read use it -/
theorem take_use (R k : Nat) (place n : Int) (s t : ByteArray) (f g : Nat → Bool) (w : World) (hk : k ≤ 42) (hR : RowAt w R place f) (h : tk place k n s t (f k) = true) (hg : ∀ j, j ≤ 42 → (f j || decide (k = j)) = g j) (B : Nat) (hB : B ≤ R) :
    Calls Tryd.prog 43 #[.pointer (some ⟨R, 0, none⟩), .agg #[.int .i64 (k : Int), .int .i64 n, .string s, .string t]] w fun e w' => e = .returned .nilIface ∧ Hid (RowAt w' R place g) ∧ Below B w w' ∧ Hid (∀ (B' : Nat) (v : Value) (m : Nat) (xs : List Value) (e : TypeId) (q : Nat), R < B' → w.ownsRow B' e q v m xs → w'.ownsRow B' e q v m xs) ∧ Hid (∀ (b i : Nat), b ≠ R → b < w.heap.size → w'.cell? ⟨b, i, none⟩ = w.cell? ⟨b, i, none⟩) := by
  refine (take_good R k place n s t f w hk hR h).mono ?_
  rintro e w' ⟨rfl, w1, hb, rfl⟩
  have hl := hR.lt
  refine ⟨rfl, ((hR.below hb).set k hk).congr hg, (hb.mono (by omega)).setCell hB _, ?_, ?_⟩
  · intro B' v m xs e q hB' ho
    exact owns_set (owns_below ho hb) _ _ hB'
  · intro b i hbR hbw
    rw [World.cell?_setCell_far _ _ _ _ (by simpa using Ne.symm hbR)]
    exact hb.cell (p := ⟨b, i, none⟩) hbw

/-- properties in memory -/
def PrAt (w : World) (b off : Nat) (l : List Pr) : Prop := ∀ k, k < l.length → w.cell? ⟨b, off + k * 4, none⟩ = some (.int .i64 (at0 l k).1) ∧ w.cell? ⟨b, off + k * 4 + 1, none⟩ = some (.int .i64 (at0 l k).2.1) ∧ w.cell? ⟨b, off + k * 4 + 2, none⟩ = some (.string (at0 l k).2.2.1) ∧ w.cell? ⟨b, off + k * 4 + 3, none⟩ = some (.string (at0 l k).2.2.2)
theorem PrAt.below {w w' : World} {b off : Nat} {l : List Pr} (h : PrAt w b off l) (hb : Below w.heap.size w w') : PrAt w' b off l := fun k hk => by
  obtain ⟨h0, h1, h2, h3⟩ := h k hk
  have hl := cell_lt h0
  exact ⟨(hb.cell (p := ⟨b, off + k * 4, none⟩) hl).trans h0, (hb.cell (p := ⟨b, off + k * 4 + 1, none⟩) hl).trans h1, (hb.cell (p := ⟨b, off + k * 4 + 2, none⟩) hl).trans h2, (hb.cell (p := ⟨b, off + k * 4 + 3, none⟩) hl).trans h3⟩
/-- their texts are not beyond what a length tells -/
def Small (l : List Pr) : Prop := ∀ k, k < l.length → (at0 l k).2.2.1.size ≤ 4611686018427387904 ∧ (at0 l k).2.2.2.size ≤ 4611686018427387904
def TellPost (place : Int) (l : List Pr) (w : World) (e : Ending) (w' : World) : Prop :=
  (okTo place l l.length ∧ ∃ v, e = .returned (.tuple #[v, .int .i64 (body l).length, .nilIface]) ∧ Hid (Byt w' v (body (l.take 32))) ∧ Below w.heap.size w w') ∨
  (chkP place l = 1 ∧ ∃ E, e = .returned (.tuple #[.slice none 0 0, .int .i64 0, .iface 79 E]) ∧ Hid (ErrP w' (.iface 79 E) 1) ∧ Below w.heap.size w w')
theorem okAt_tk (place : Int) (l : List Pr) (k : Nat) : okAt place l k = (tk place (at0 l k).1 (at0 l k).2.1 (at0 l k).2.2.1 (at0 l k).2.2.2 (seen l k (at0 l k).1) && txo (at0 l k)) := by
  unfold okAt tk may
  rw [show ((at0 l k).1, (at0 l k).2.1, (at0 l k).2.2.1, (at0 l k).2.2.2) = at0 l k from rfl]
  cases mst (at0 l k).1 place <;> cases fit (at0 l k) <;> cases txo (at0 l k) <;> cases (rep (at0 l k).1 place || !seen l k (at0 l k).1) <;> rfl
theorem kd_of_mst (id place : Int) (h : mst id place = true) : kd id ≠ 0 := by
  revert h
  refine id_cases (P := fun id => mst id place = true → kd id ≠ 0) id ?_ ?_ ?_ ?_ ?_ ?_ ?_ ?_ ?_ ?_ ?_ ?_ ?_ ?_ ?_ ?_ ?_ ?_ ?_ ?_ ?_ ?_ ?_ ?_ ?_ ?_ ?_ ?none
  case none =>
    intro n1 n2 n3 n8 n9 n11 n17 n18 n19 n21 n22 n23 n24 n25 n26 n28 n31 n33 n34 n35 n36 n37 n38 n39 n40 n41 n42 h
    unfold mst at h
    rw [plc_none id n1 n2 n3 n8 n9 n11 n17 n18 n19 n21 n22 n23 n24 n25 n26 n28 n31 n33 n34 n35 n36 n37 n38 n39 n40 n41 n42] at h
    simp at h
  all_goals
    intro _
    decide
theorem tk_toNat {place id n : Int} {s t : ByteArray} {b : Bool} (f : Int → Bool) (h : tk place id n s t (f id) = b) : tk place id n s t (f (id.toNat : Int)) = b := by
  subst h
  by_cases hm : mst id place = true
  · have := id_range id place hm
    rw [show (id.toNat : Int) = id from by omega]
  · have hm' : mst id place = false := by simpa using hm
    unfold tk
    rw [hm']; rfl
theorem tk_mst {place id n : Int} {s t : ByteArray} {sn : Bool} (h : tk place id n s t sn = true) : mst id place = true ∧ fit (id, n, s, t) = true := by
  unfold tk at h
  rw [Bool.and_eq_true, Bool.and_eq_true] at h
  exact h.1
set_option maxHeartbeats 4000000 in
theorem tell_core (b off cap : Nat) (l : List Pr) (len : Nat) (place : Int) (w : World) (hlen : l.length = len) (h200 : len ≤ 200) (hsm : Small l) (hl : PrAt w b off l) :
    Calls Tryd.prog 29 #[.slice (some ⟨b, off, none⟩) len cap, .int .i64 place] w (TellPost place l w) := by
  have HL := hide hl
  have HLEN := hide hlen
  have HSM := hide hsm
  clear hl hlen hsm
  go_enter Tryd.func29, Tryd.ntmps29
  iterate 19 go_step
  refine wpList_value rfl (row_build _ _ _ _ _ _ place rfl _) ?_
  simp only [Act.put, List.setIfInBounds_toArray, List.set_cons_zero, List.set_cons_succ]
  refine wpList_value rfl (row_alloc _ _ _ _ _ _) ?_
  simp only [Act.put, List.setIfInBounds_toArray, List.set_cons_zero, List.set_cons_succ]
  refine wpList_skip rfl (row_store _ _ _ _ _ _ _ place _ rfl rfl) ?_
  simp only [Act.put]
  go_wp2
  have hR0 : Hid (RowAt (w.alloc (.cells (rowA place) 76)) w.heap.size place (fun _ => false)) := rowAt_new w place
  go_loopw [4, 5, 16] (fun b0 sz iv wr => ∃ (bv : Value) (k S : Nat), b0 = bv ∧ k ≤ len ∧ iv = .int .i64 k ∧ sz = .int .i64 S ∧ S ≤ k * 131078 ∧ Hid (S = (body (l.take k)).length) ∧ Hid (okTo place l k) ∧ Hid (RowAt wr w.heap.size place (fun j => seen l k j)) ∧ Hid (wr.ownsRow (w.heap.size + 1) 5 1 bv (body (l.take (min k 32))).length ((body (l.take (min k 32))).map (Value.int .u8))) ∧ Hid (∀ j, 0 ≤ (body (l.take (min k 32))).getD j 0 ∧ (body (l.take (min k 32))).getD j 0 ≤ 255) ∧ Below w.heap.size w wr) (fun _ _ iv _ => len - (intOf iv).toNat)
  case atStart =>
    refine ⟨_, 0, 0, rfl, Nat.zero_le _, rfl, rfl, by omega, by simp [body]; trivial, okTo_zero _ _, (unhide hR0).congr (fun j _ => (seen_zero _ _).symm), ?_, ?_, ?_⟩
    · show World.ownsRow _ _ _ _ _ _ _
      simpa [body] using World.ownsRow_nil _ _ _ _
    · intro j; simp [body]
    · exact (Below.refl _ _).alloc (Nat.le_refl _) _
  case round =>
    obtain ⟨_, k, S, rfl, hk, rfl, rfl, hSk, HS, HOT, HROW, HOWN, HRG, hbel⟩ := hrel
    clear hR0
    have hsz := hbel.size
    have hRl := (unhide HROW).lt
    by_cases hlt : k < len
    · obtain ⟨id, n, s, t, hp⟩ : ∃ id n s t, at0 l k = (id, n, s, t) := ⟨_, _, _, _, rfl⟩
      obtain ⟨h0, h1, h2, h3⟩ := ((unhide HL).below hbel) k (by rw [unhide HLEN]; exact hlt)
      have hsm := (unhide HSM) k (by rw [unhide HLEN]; exact hlt)
      have hot := hide (okAt_tk place l k)
      rw [hp] at h0 h1 h2 h3 hsm hot
      simp only at h0 h1 h2 h3 hsm
      have HP := hide hp
      have HBEL := hide hbel
      have HSMK := hide hsm
      have HLTk : Hid (k < l.length) := by show _ < _; rw [unhide HLEN]; exact hlt
      clear hp hbel hsm
      have hbl := cell_lt h0
      cases htk : tk place id n s t (seen l k id)
      · have HC : Hid (chkP place l = 1) := chkP_bad place l k (unhide HLTk) ((unhide hot).trans (by simp only [htk, Bool.false_and]))
        have HTK := hide (tk_toNat (seen l k) htk)
        clear htk hot
        go_wp2_with fail
        refine (take_bad w.heap.size place id n s t (fun j => seen l k j) _ ((unhide HROW).below ((Below.refl _ _).alloc (Nat.le_refl _) _)) (unhide HTK)).mono ?_
        rintro e w2 ⟨E, rfl, hE, hb2⟩
        go_wp2
        go_ret3
        exact .inr ⟨unhide HC, _, rfl, hE, ((unhide HBEL).alloc hsz _).trans (hb2.mono (by simp; omega))⟩
      · obtain ⟨hmst, hfit⟩ := tk_mst htk
        obtain ⟨hi1, hi2⟩ := id_range id place hmst
        obtain ⟨q, rfl⟩ : ∃ q : Nat, id = q := ⟨id.toNat, by omega⟩
        have hkd := hide (kd_of_mst _ _ hmst)
        have hxt : Hid (okAt place l k = txo ((q : Int), n, s, t)) := (unhide hot).trans (by rw [htk, Bool.true_and])
        have HTK := hide htk
        have HFT := hide hfit
        have HG : Hid (∀ j : Nat, j ≤ 42 → (seen l k (j : Int) || decide (q = j)) = seen l (k + 1) (j : Int)) := fun j _ => by
          rw [seen_succ l k (unhide HLTk), unhide HP, show decide (((q : Int), n, s, t).1 = (j : Int)) = decide (q = j) from by rw [decide_eq_decide]; constructor <;> intro h <;> omega]
        clear htk hot hmst hfit
        go_wp2_with fail
        refine (take_use w.heap.size q place n s t (fun j => seen l k j) (fun j => seen l (k + 1) j) _ (by omega) ((unhide HROW).below ((Below.refl _ _).alloc (Nat.le_refl _) _)) (unhide HTK) (unhide HG) w.heap.size (Nat.le_refl _)).mono ?_
        rintro e w2 ⟨rfl, HROW2, hb2, HOWT, HCT⟩
        have d0 : w2.cell? ⟨wr.heap.size, 0, none⟩ = some (.int .i64 (q : Int)) := ((unhide HCT) wr.heap.size 0 (by omega) (by simp)).trans (by simp)
        have d1 : w2.cell? ⟨wr.heap.size, 1, none⟩ = some (.int .i64 n) := ((unhide HCT) wr.heap.size 1 (by omega) (by simp)).trans (by simp)
        have d2 : w2.cell? ⟨wr.heap.size, 2, none⟩ = some (.string s) := ((unhide HCT) wr.heap.size 2 (by omega) (by simp)).trans (by simp)
        have d3 : w2.cell? ⟨wr.heap.size, 3, none⟩ = some (.string t) := ((unhide HCT) wr.heap.size 3 (by omega) (by simp)).trans (by simp)
        have HOWN2 : Hid (w2.ownsRow (w.heap.size + 1) 5 1 u4 (body (l.take (min k 32))).length ((body (l.take (min k 32))).map (Value.int .u8))) := (unhide HOWT) _ _ _ _ _ _ (by omega) ((unhide HOWN).alloc _)
        have HB2 : Hid (Below w.heap.size w w2) := ((unhide HBEL).alloc hsz _).trans hb2
        have hs2 := (unhide HB2).size
        clear hb2 HOWT HCT HOWN HBEL HROW HG HTK h0 h1 h2 h3
        cases htx : txo ((q : Int), n, s, t)
        · have HC : Hid (chkP place l = 1) := chkP_bad place l k (unhide HLTk) ((unhide hxt).trans htx)
          have HTX := hide htx
          clear htx hxt
          go_wp2_with fail
          refine (one_bad q n s t _ (by omega) (unhide HSMK).1 (unhide HSMK).2 (unhide hkd) (unhide HTX)).mono ?_
          rintro e w3 ⟨t3, x3, m3, rfl, hin3, hb3⟩
          have HB3 : Hid (Below w.heap.size w w3) := (unhide HB2).trans (hb3.mono hs2)
          clear hb3
          go_wp2_with fail
          refine (broken_use _ m3 _ (unhide hin3)).mono ?_
          rintro e w4 ⟨E, rfl, hE, hb4⟩
          go_wp2
          go_ret3
          exact .inr ⟨unhide HC, _, rfl, hE, (unhide HB3).trans (hb4.mono (unhide HB3).size)⟩
        · have HOK : Hid (okAt place l k = true) := (unhide hxt).trans htx
          have HM : Hid (may ((q : Int), n, s, t) = true) := by show may _ = true; unfold may; rw [unhide HFT, htx]; rfl
          have hpl := pb_le _ (unhide HM)
          have HPB : Hid (body (l.take (k + 1)) = body (l.take k) ++ pb ((q : Int), n, s, t)) := by show _ = _; rw [body_take l k (unhide HLTk), unhide HP]
          have HV := hide (fun W => one_ok q n s t W (by omega) (unhide HM))
          generalize pb ((q : Int), n, s, t) = L at HV hpl HPB
          clear htx hxt HM HFT hkd HSMK
          go_wp2_with fail
          refine ((unhide HV) _).mono ?_
          rintro e w3 ⟨v3, rfl, hy3, hb3⟩
          have HOWN3 : Hid (w3.ownsRow (w.heap.size + 1) 5 1 u4 (body (l.take (min k 32))).length ((body (l.take (min k 32))).map (Value.int .u8))) := owns_below (unhide HOWN2) hb3
          have HROW3 : Hid (RowAt w3 w.heap.size place (fun j => seen l (k + 1) j)) := (unhide HROW2).below hb3
          have HB3 : Hid (Below w.heap.size w w3) := (unhide HB2).trans (hb3.mono hs2)
          have hs3 : w.heap.size + 1 ≤ w3.heap.size := by have := (unhide HROW3).lt; omega
          clear hb3 HOWN2 HROW2 HB2 d0 d1 d2 d3 HV
          obtain ⟨ao, vc, rfl, hv1, hv2⟩ := (unhide hy3).form
          unfold maxLen at hv2
          generalize hN : L.length = N at hpl hv1 hy3
          have HN := hide hN
          clear hN
          have HS' : Hid (S + N = (body (l.take (k + 1))).length) := by show _ = _; rw [unhide HPB, List.length_append, unhide HN, unhide HS]
          by_cases h32 : k < 32
          · have hle := body_le l place k (Nat.le_of_lt (unhide HLTk)) (unhide HOT)
            have HM1 : Hid (min k 32 = k) := Nat.min_eq_left (by omega)
            have HM2 : Hid (min (k + 1) 32 = k + 1) := Nat.min_eq_left (by omega)
            rw [unhide HM1] at HOWN3 HRG
            rw [← unhide HS] at hle
            have HSL : Hid ((body (l.take k)).length = S) := (unhide HS).symm
            rw [unhide HSL] at HOWN3
            have HYN : Hid (Byt w3 (.slice ao N vc) L) := hy3
            go_wp2_with (first
              | (at_builtin; refine wpList_append_byt _ rfl _ _ rfl (w.heap.size + 1) _ S (body (l.take k)) rfl (unhide HOWN3) (.slice ao N vc) L rfl (unhide HYN) (by have := unhide HN; omega) hs3 ?_)
              | go_in)
            intro v4 w4 hown4 hgrow4
            have HB4 : Hid (Below w.heap.size w w4) := (unhide HB3).grown hgrow4 (unhide HB3).size (fun g hg => by have := ((unhide HOWN3).lt g hg).1; omega)
            have HROW4 : Hid (RowAt w4 w.heap.size place (fun j => seen l (k + 1) j)) := row_grown (unhide HROW3) hgrow4 (fun g hg => by have := ((unhide HOWN3).lt g hg).1; omega)
            have HOWN4 : Hid (w4.ownsRow (w.heap.size + 1) 5 1 v4 (body (l.take (min (k + 1) 32))).length ((body (l.take (min (k + 1) 32))).map (Value.int .u8))) := by
              show World.ownsRow _ _ _ _ _ _ _
              rw [unhide HM2, unhide HPB, List.map_append, List.length_append, unhide HSL]
              exact hown4
            have HRG4 : Hid (∀ j, 0 ≤ (body (l.take (min (k + 1) 32))).getD j 0 ∧ (body (l.take (min (k + 1) 32))).getD j 0 ≤ 255) := by
              show ∀ j, _
              rw [unhide HM2, unhide HPB]
              exact range_app (unhide HRG) (unhide HYN).range
            clear hown4 hgrow4
            go_wp2
            go_roundw
            case rel => exact ⟨_, k + 1, S + N, rfl, by omega, by go_num, by go_num, by omega, HS', okTo_succ (unhide HOT) (unhide HOK), HROW4, HOWN4, HRG4, unhide HB4⟩
            case measure => simp [intOf]; omega
          · have HM1 : Hid (min k 32 = min (k + 1) 32) := by show _ = _; omega
            rw [unhide HM1] at HOWN3 HRG
            go_wp2
            go_roundw
            case rel => exact ⟨_, k + 1, S + N, rfl, by omega, by go_num, by go_num, by omega, HS', okTo_succ (unhide HOT) (unhide HOK), HROW3, HOWN3, HRG, unhide HB3⟩
            case measure => simp [intOf]; omega
    · obtain rfl : k = len := by omega
      have HY : Hid (Byt wr u4 (body (l.take 32))) := by
        show Byt _ _ _
        rw [take_min l k (unhide HLEN)]
        exact byt_of_owns (unhide HOWN) (unhide HRG)
      have HS' : Hid ((S : Int) = ((body l).length : Int)) := by
        show _ = _
        rw [unhide HS, List.take_of_length_le (Nat.le_of_eq (unhide HLEN))]
      go_wp2
      go_ret3
      exact .inl ⟨by rw [unhide HLEN]; exact unhide HOT, _, by rw [← unhide HS']; rfl, HY, hbel⟩
end Go.Proofs.YtpfpollejhdbgaaDoor
/- Proved here: prop.Check and prop.Put at any properties read from memory, at most 200: the error's number (chkP), and the bytes (pbs). Helper contracts. -/
namespace Go.Proofs.YtpfpollejhdbgaaDoor
open Go.RowKit
set_option maxRecDepth 100000

/-- the value v reads in the world w as the properties l -/
def Prp (w : World) (v : Value) (l : List Pr) : Prop := ∃ ao cap, v = .slice ao l.length cap ∧ (l = [] ∨ ∃ b off, ao = some ⟨b, off, none⟩ ∧ PrAt w b off l)
theorem Prp.below {w w' : World} {v : Value} {l : List Pr} (h : Prp w v l) (hb : Below w.heap.size w w') : Prp w' v l := by
  obtain ⟨ao, cap, h1, h2⟩ := h
  refine ⟨ao, cap, h1, ?_⟩
  rcases h2 with h2 | ⟨b, off, e, hc⟩
  · exact .inl h2
  · exact .inr ⟨b, off, e, hc.below hb⟩
theorem Prp.form {w : World} {v : Value} {l : List Pr} (h : Prp w v l) : ∃ ao cap, v = .slice ao l.length cap := by
  obtain ⟨ao, cap, h1, _⟩ := h
  exact ⟨ao, cap, h1⟩
theorem tell_nil (ao : Option Addr) (cap : Nat) (place : Int) (w : World) : Calls Tryd.prog 29 #[.slice ao 0 cap, .int .i64 place] w (TellPost place [] w) := by
  go_enter Tryd.func29, Tryd.ntmps29
  iterate 19 go_step
  refine wpList_value rfl (row_build _ _ _ _ _ _ place rfl _) ?_
  simp only [Act.put, List.setIfInBounds_toArray, List.set_cons_zero, List.set_cons_succ]
  refine wpList_value rfl (row_alloc _ _ _ _ _ _) ?_
  simp only [Act.put, List.setIfInBounds_toArray, List.set_cons_zero, List.set_cons_succ]
  refine wpList_skip rfl (row_store _ _ _ _ _ _ _ place _ rfl rfl) ?_
  simp only [Act.put]
  go_wp2
  refine wp_loop_rounds 1 ?_
  rw [rounds_succ]
  go_wp2
  go_ret3
  exact .inl ⟨okTo_zero _ _, _, rfl, ⟨none, 0, rfl, ⟨Nat.le_refl _, by unfold maxLen; omega⟩, fun j => by simp [body], .inl rfl⟩, (Below.refl _ _).alloc (Nat.le_refl _) _⟩
theorem tell_any (v : Value) (l : List Pr) (place : Int) (w : World) (h : Prp w v l) (h200 : l.length ≤ 200) (hsm : Small l) : Calls Tryd.prog 29 #[v, .int .i64 place] w (TellPost place l w) := by
  obtain ⟨ao, cap, rfl, hc⟩ := h
  rcases hc with rfl | ⟨b, off, rfl, hc⟩
  · exact tell_nil ao cap place w
  · exact tell_core b off cap l _ place w rfl h200 hsm hc
theorem check_any (v : Value) (l : List Pr) (place : Int) (w : World) (h : Prp w v l) (h200 : l.length ≤ 200) (hsm : Small l) :
    Calls Tryd.prog 16 #[v, .int .i64 place] w fun e w' => ∃ E, e = .returned E ∧ Hid (ErrP w' E (chkP place l)) ∧ Below w.heap.size w w' := by
  have HT := hide (tell_any v l place w h h200 hsm)
  obtain ⟨ao, cap, hv⟩ := h.form
  subst hv
  clear h hsm
  generalize hn : l.length = len at h200 HT
  have HN := hide hn
  clear hn
  go_enter Tryd.func16, Tryd.ntmps16
  go_wp2_with fail
  refine (unhide HT).mono ?_
  rintro e w1 (⟨hok, v1, rfl, hy, hb1⟩ | ⟨hc, E, rfl, hE, hb1⟩)
  · have HOK := hide hok
    clear hok
    have HB1 := hide hb1
    clear hb1
    rcases Nat.lt_or_ge 32 len with h32 | h32
    · have HC : Hid (chkP place l = 2) := chkP_lim place l (unhide HOK) (by rw [unhide HN]; exact h32)
      go_wp2_with fail
      refine (few_bad len _ (by omega)).mono ?_
      rintro e w2 ⟨E, rfl, hE, hb2⟩
      go_wp2
      go_ret
      exact ⟨_, rfl, by rw [unhide HC]; exact hE, (unhide HB1).trans (hb2.mono (unhide HB1).size)⟩
    · have HC : Hid (chkP place l = 0) := chkP_ok place l (unhide HOK) (by rw [unhide HN]; exact h32)
      go_wp2_with fail
      refine (few_ok len _ (by omega)).mono ?_
      rintro e w2 ⟨rfl, hw⟩
      obtain rfl := hw.symm
      clear hw
      go_wp2
      go_ret
      exact ⟨_, rfl, by rw [unhide HC]; exact ErrP.nil _, unhide HB1⟩
  · have HC := hide hc
    clear hc
    go_wp2
    go_ret
    exact ⟨_, rfl, by rw [unhide HC]; exact hE, hb1⟩
/-- Put's bytes: those of properties that may stand, else none -/
def pbz (place : Int) (l : List Pr) : List Int := if chkP place l = 0 then pbs l else []
set_option maxHeartbeats 1000000 in
theorem put_any (v : Value) (l : List Pr) (place : Int) (w : World) (h : Prp w v l) (h200 : l.length ≤ 200) (hsm : Small l) :
    Calls Tryd.prog 14 #[v, .int .i64 place] w fun e w' => ∃ v E, e = .returned (.tuple #[v, E]) ∧ Hid (Byt w' v (pbz place l)) ∧ Hid (ErrP w' E (chkP place l)) ∧ Below w.heap.size w w' := by
  have HT := hide (tell_any v l place w h h200 hsm)
  obtain ⟨ao, cap, hv⟩ := h.form
  subst hv
  clear h hsm
  generalize hn : l.length = len at h200 HT
  have HN := hide hn
  clear hn
  have hbad : ∀ (W : World), chkP place l ≠ 0 → Byt W (.slice none 0 0) (pbz place l) := fun W hc => by
    unfold pbz
    rw [if_neg hc]
    exact ⟨none, 0, rfl, ⟨Nat.le_refl _, by unfold maxLen; omega⟩, fun j => by simp, .inl rfl⟩
  have HBAD := hide hbad
  clear hbad
  go_enter Tryd.func14, Tryd.ntmps14
  go_wp2_with fail
  refine (unhide HT).mono ?_
  rintro e w1 (⟨hok, v1, rfl, hy, hb1⟩ | ⟨hc, E, rfl, hE, hb1⟩)
  · have hle := body_le l place len (by rw [unhide HN]; exact Nat.le_refl _) (by rw [unhide HN] at hok; exact hok)
    rw [List.take_of_length_le (Nat.le_of_eq (unhide HN))] at hle
    have HOK := hide hok
    have HB1 := hide hb1
    clear hb1 hok
    generalize hS : (body l).length = SZ at hle
    have HS := hide hS
    clear hS
    go_wp2_with fail
    refine (vput_use SZ _ (by omega) (by omega)).mono ?_
    rintro e w2 ⟨v2, rfl, hown2, hy2, hb2⟩
    have HB2 : Hid (Below w.heap.size w w2) := (unhide HB1).trans (hb2.mono (unhide HB1).size)
    have HO2 : Hid (w2.ownsRow w.heap.size 5 1 v2 (V.put SZ).length ((V.put SZ).map (Value.int .u8))) := owns_mono (unhide hown2) (unhide HB1).size
    have HY1 : Hid (Byt w2 v1 (body (l.take 32))) := (unhide hy).below hb2
    clear hb2 hown2 hy HB1
    rcases Nat.lt_or_ge 32 len with h32 | h32
    · have HC : Hid (chkP place l = 2) := chkP_lim place l (unhide HOK) (by rw [unhide HN]; exact h32)
      go_wp2_with fail
      refine (few_bad len _ (by omega)).mono ?_
      rintro e w3 ⟨E, rfl, hE, hb3⟩
      go_wp2
      go_ret2
      exact ⟨_, _, rfl, (unhide HBAD) _ (by rw [unhide HC]; omega), by rw [unhide HC]; exact hE, (unhide HB2).trans (hb3.mono (unhide HB2).size)⟩
    · have HC : Hid (chkP place l = 0) := chkP_ok place l (unhide HOK) (by rw [unhide HN]; exact h32)
      have HZ : Hid (pbz place l = V.put SZ ++ body l) := by show pbz _ _ = _; unfold pbz pbs; rw [if_pos (unhide HC), unhide HS]
      have HL := hide (V.put_len SZ)
      have HT32 : Hid (l.take 32 = l) := List.take_of_length_le (by rw [unhide HN]; exact h32)
      rw [unhide HT32] at HY1
      go_wp2_with fail
      refine (few_ok len _ (by omega)).mono ?_
      rintro e w3 ⟨rfl, hw⟩
      obtain rfl := hw.symm
      clear hw
      go_wp2_with (first
        | (at_builtin; refine wpList_append_byt _ rfl _ _ rfl w.heap.size _ (V.put SZ).length (V.put SZ) rfl (unhide HO2) v1 (body l) rfl (unhide HY1) (by have := unhide HL; have := unhide HS; omega) (unhide HB2).size ?_)
        | go_in)
      intro v4 w4 hown4 hgrow4
      have HB4 : Hid (Below w.heap.size w w4) := (unhide HB2).grown hgrow4 (unhide HB2).size (fun g hg => ((unhide HO2).lt g hg).1)
      have HY4 : Hid (Byt w4 v4 (pbz place l)) := by
        show Byt _ _ _
        rw [unhide HZ]
        exact byt_of_owns (by rw [List.map_append]; exact hown4) (range_app (unhide hy2).range (unhide HY1).range)
      clear hown4 hgrow4
      go_wp2
      go_ret2
      exact ⟨_, _, rfl, HY4, by rw [unhide HC]; exact ErrP.nil _, unhide HB4⟩
  · have HC := hide hc
    clear hc
    go_wp2
    go_ret2
    exact ⟨_, _, rfl, (unhide HBAD) _ (by rw [unhide HC]; omega), by rw [unhide HC]; exact hE, hb1⟩
end Go.Proofs.YtpfpollejhdbgaaDoor
/- Proved here: what a readable argument of the statements of layer 3 is in memory, and that errors.errorType, as laid, is the handle of the type error. Helpers. -/
namespace Go.Proofs.YtpfpollejhdbgaaDoor
open Go.ChangeShapes Go.WideShapes Go.ChangeAt Go.RowKit Go.Deep
set_option maxRecDepth 100000

theorem Tryd.own : ownKnob Tryd.prog.godebug = none := by kernel_rfl
theorem Tryd.laidOut : laidOutB Tryd.prog = true := by kernel_rfl
theorem Tryd.et : Tryd.prog.globalNamed "errors.errorType" = some 0 := by kernel_rfl
theorem Tryd.rt : (Tryd.prog.cutTypes.find? (·.1 == "internal/reflectlite.rtype")).map (·.2) = some 122 := by kernel_rfl
theorem Tryd.oneRow : ((List.range 177).filter fun t => Tryd.prog.rowNamed t [101, 114, 114, 111, 114]) = [33] := by kernel_rfl
theorem Tryd.tsize : Tryd.prog.types.size = 177 := by kernel_rfl
theorem Tryd.cellsAsk : Tryd.prog.cellsOf 26 = 3 := by kernel_rfl
theorem Tryd.cellsProp : Tryd.prog.cellsOf 49 = 4 := by kernel_rfl
theorem Tryd.cellsProps : Tryd.prog.cellsOf 23 = 1 := by kernel_rfl
theorem Tryd.cellsStr : Tryd.prog.cellsOf 9 = 1 := by kernel_rfl
theorem Tryd.bytesProp : Tryd.prog.bytesOf 49 = 48 := by kernel_rfl
theorem Tryd.cellsInt : Tryd.prog.cellsOf 3 = 1 := by kernel_rfl
theorem Tryd.cellsBytes : Tryd.prog.cellsOf 24 = 1 := by kernel_rfl
theorem Tryd.cellsU8 : Tryd.prog.cellsOf 5 = 1 := by kernel_rfl
theorem Tryd.bytesU8 : Tryd.prog.bytesOf 5 = 1 := by kernel_rfl

def laidL : List (String × DataW Unit) := [("errors.errorType", Rows.laid_errors_errorType)]

theorem handle_of_laid {W : World} (h : laidMetH Tryd.prog laidL W) : Laid W := by
  have h' : laidMet Tryd.prog [] W ∧ handlesMet Tryd.prog laidL W := h
  obtain ⟨name, u, ty, e1, e2, e3, e4, e5⟩ := h'.2 _ (List.mem_singleton.2 rfl)
  have en : name = [101, 114, 114, 111, 114] := (Option.some.inj e1).symm
  subst en
  obtain rfl := Option.some.inj (Tryd.rt.symm.trans e2)
  have hm : ty ∈ (List.range 177).filter fun t => Tryd.prog.rowNamed t [101, 114, 114, 111, 114] := List.mem_filter.2 ⟨List.mem_range.2 (by rw [← Tryd.tsize]; exact e3), e4⟩
  rw [Tryd.oneRow] at hm
  obtain rfl := List.mem_singleton.1 hm
  have hh : typeHandle Tryd.prog 33 = .pointer (some ⟨1, 33, none⟩) := by kernel_rfl
  rw [hh] at e5
  unfold Laid
  simpa using World.var?_cell Tryd.et e5 0

theorem laidWorld_met (os : Os) (args : Array Value) : laidMetH Tryd.prog laidL (World.forCall ({ World.holding Tryd.prog os ⟨#[], #[], []⟩ with heap := (World.holding Tryd.prog os ⟨#[], #[], []⟩).heap.modify 0 fun | .cells _ t frozen => .cells #[.iface 122 (.agg #[.pointer (some ⟨1, 33, none⟩)])] t frozen | o => o } : World) (fun _ _ => 0) ⟨#[], args, []⟩).memory :=
  laidMetH_of_parts (laidMet_nil _ _) (by kernel_rfl)

theorem weights_all_mem {H : Type} {P : Program} {e : TypeId} {ds : List (DataW H)} {d : DataW H} (h : d ∈ ds) : ∀ n ∈ d.weights P e, n ∈ DataW.weightsAll P e ds := by
  induction ds with
  | nil => cases h
  | cons x r ih =>
    intro n hn
    simp only [DataW.weightsAll, List.mem_append]
    rcases List.mem_cons.1 h with rfl | h
    · exact .inl hn
    · exact .inr (ih h n hn)

/-- a byte slice that reads is a byte slice -/
theorem byt_of_trod {H : Type} {enc : TypeId × Value → H} {W : World} {fuel : Nat} {v : Value} {d : DataW H} {ps : List MemPlace} (h : DataW.trod enc Tryd.prog W 0 (fun _ => true) true fuel 24 [v] = some (d, ps)) :
    ∃ bs, Byt W v bs ∧ ((∀ n ∈ d.weights Tryd.prog 24, n ≤ reachBytes) → bs.length ≤ 140737488351232) := by
  rcases open_ints Tryd.underlying24 Tryd.underlying5 Tryd.cellsU8 h with ⟨hcs, hx⟩ | ⟨a, len, cap, zs, hcs, _, hl, hm, hz, hx, hcell, hwz⟩
  · simp at hcs
    subst hcs
    exact ⟨[], ⟨none, 0, rfl, ⟨by simp, by simp⟩, by intro j; simp, .inl rfl⟩, fun _ => by simp⟩
  · simp at hcs
    subst hcs
    simp only [if_true] at hz
    simp only [Prod.mk.injEq] at hx
    obtain ⟨rfl, rfl⟩ := hx
    have hr : ∀ j, 0 ≤ (zs.take len).getD j 0 ∧ (zs.take len).getD j 0 ≤ 255 := by
      intro j
      by_cases hj : j < (zs.take len).length
      · have hmem : (zs.take len).getD j 0 ∈ zs := by
          rw [List.getD_eq_getElem?_getD, List.getElem?_eq_getElem hj]
          exact List.mem_of_mem_take (List.getElem_mem hj)
        have := hwz _ hmem
        have h1 : IntKind.u8.min = 0 := rfl
        have h2 : IntKind.u8.max = 255 := rfl
        simp only [Lit.wf, Bool.and_eq_true, decide_eq_true_eq] at this
        omega
      · rw [List.getD_eq_getElem?_getD, List.getElem?_eq_none (by omega)]; simp
    have hlen : (zs.take len).length = len := by rw [List.length_take]; omega
    refine ⟨zs.take len, ⟨some a, cap, by rw [hlen], ⟨by rw [hlen]; exact hl, hm⟩, hr, ?_⟩, ?_⟩
    · by_cases h0 : len = 0
      · exact .inl (by rw [h0]; rfl)
      · obtain ⟨b, off, spot⟩ := a
        have hspot : spot = none := by simpa [Addr.add] using World.cell?_spot (hcell 0 (by omega))
        subst hspot
        refine .inr ⟨b, off, rfl, fun j hj => ?_⟩
        rw [hlen] at hj
        rw [← add_plain, hcell j (by omega), List.getD_eq_getElem?_getD, List.getD_eq_getElem?_getD, List.getElem?_take, if_pos hj]
    · intro hw
      have := hw ((((lits (H := H) .u8 (zs.take len)).length + (lits (H := H) .u8 (zs.drop len)).length)) * Tryd.prog.bytesOf 5) (by simp [DataW.weights, Tryd.underlying24])
      rw [Tryd.bytesU8] at this
      simp only [lits, List.length_map, List.length_take, List.length_drop, reachBytes] at this
      rw [hlen]
      omega

/-- texts and lists that a machine could hold -/
def Held (l : List Pr) : Prop := l.length ≤ 140737488351232 ∧ ∀ k, k < l.length → (at0 l k).2.2.1.size ≤ 140737488351232 ∧ (at0 l k).2.2.2.size ≤ 140737488351232
theorem Held.small {l : List Pr} (h : Held l) : Small l := fun k hk => by have := h.2 k hk; omega
theorem at0_map (f : Nat → Pr) (len k : Nat) (h : k < len) : at0 ((List.range len).map f) k = f k := by
  unfold at0
  rw [List.getD_eq_getElem?_getD, List.getElem?_map, List.getElem?_range h]
  rfl
/-- one property that reads -/
theorem prop_of_trod {H : Type} {enc : TypeId × Value → H} {W : World} {n : Nat} {cs : List Value} {d : DataW H} {ps : List MemPlace} (h : DataW.trod enc Tryd.prog W 0 (fun _ => true) true n 49 cs = some (d, ps)) :
    ∃ p : Pr, cs = [.int .i64 p.1, .int .i64 p.2.1, .string p.2.2.1, .string p.2.2.2] ∧ ((∀ n ∈ d.weights Tryd.prog 49, n ≤ reachBytes) → p.2.2.1.size ≤ 140737488351232 ∧ p.2.2.2.size ≤ 140737488351232) := by
  obtain ⟨xs, k, hk, hxy, hcl, hxl, hf⟩ := DataW.trod_struct Tryd.underlying49 h
  rw [Tryd.cellsProp] at hcl
  match xs, hxl, cs, hcl with
  | [y0, y1, y2, y3], _, [v0, v1, v2, v3], _ =>
    have g0 := hf 0 _ rfl
    have g1 := hf 1 _ rfl
    have g2 := hf 2 _ rfl
    have g3 := hf 3 _ rfl
    simp [Tryd.cellsInt, Tryd.cellsStr] at g0 g1 g2 g3
    obtain ⟨z0, hz0, hy0, _⟩ := DataW.trod_int Tryd.underlying3 g0
    obtain ⟨z1, hz1, hy1, _⟩ := DataW.trod_int Tryd.underlying3 g1
    obtain ⟨z2, hz2, hy2, _⟩ := DataW.trod_string Tryd.underlying9 g2
    obtain ⟨z3, hz3, hy3, _⟩ := DataW.trod_string Tryd.underlying9 g3
    simp at hz0 hz1 hz2 hz3
    subst hz0 hz1 hz2 hz3
    refine ⟨(z0, z1, z2, z3), rfl, fun hw => ?_⟩
    simp only [Prod.mk.injEq] at hxy
    obtain ⟨rfl, _⟩ := hxy
    have w2 := hw z2.data.toList.length (by
      simp only [DataW.weights, Tryd.underlying49, DataW.weightsEach, List.map, List.mem_append, hy0, hy1, hy2, hy3]
      simp)
    have w3 := hw z3.data.toList.length (by
      simp only [DataW.weights, Tryd.underlying49, DataW.weightsEach, List.map, List.mem_append, hy0, hy1, hy2, hy3]
      simp)
    simp only [reachBytes, Array.length_toList] at w2 w3
    exact ⟨w2, w3⟩
/-- a list of properties that reads -/
theorem prp_of_trod {H : Type} {enc : TypeId × Value → H} {W : World} {fuel : Nat} {v : Value} {d : DataW H} {ps : List MemPlace} (h : DataW.trod enc Tryd.prog W 0 (fun _ => true) true fuel 23 [v] = some (d, ps)) :
    ∃ l, Prp W v l ∧ ((∀ n ∈ d.weights Tryd.prog 23, n ≤ reachBytes) → Held l) := by
  rcases open_slice Tryd.underlying23 h with ⟨hcs, hx⟩ | ⟨a, len, cap, m, n, D, Pl, hcs, hb, hl, hm, hmm, hx, hel⟩
  · simp at hcs
    subst hcs
    exact ⟨[], ⟨none, 0, rfl, .inl rfl⟩, fun _ => ⟨by simp, fun k hk => by simp at hk⟩⟩
  · simp at hcs
    subst hcs
    simp only [if_true] at hmm
    subst hmm
    simp only [Prod.mk.injEq] at hx
    obtain ⟨rfl, _⟩ := hx
    rw [Tryd.cellsProp] at hel
    have key : ∀ i, i < len → ∃ p : Pr, W.cells? 0 (a.add (i * 4)) 4 = some [.int .i64 p.1, .int .i64 p.2.1, .string p.2.2.1, .string p.2.2.2] ∧ ((∀ n ∈ (D i).weights Tryd.prog 49, n ≤ reachBytes) → p.2.2.1.size ≤ 140737488351232 ∧ p.2.2.2.size ≤ 140737488351232) := by
      intro i hi
      obtain ⟨cs', h1, h2⟩ := hel i (by omega)
      obtain ⟨p, rfl, hp⟩ := prop_of_trod h2
      exact ⟨p, h1, hp⟩
    obtain ⟨f, hf⟩ := choose_lt key
    refine ⟨(List.range len).map f, ?_, ?_⟩
    · refine ⟨some a, m, by simp, ?_⟩
      by_cases h0 : len = 0
      · exact .inl (by rw [h0]; rfl)
      · obtain ⟨b, off, spot⟩ := a
        have hspot : spot = none := by
          obtain ⟨_, _, hcell⟩ := World.cells?_some (hf 0 (by omega)).1
          simpa [Addr.add] using World.cell?_spot (hcell 0 (by omega))
        subst hspot
        refine .inr ⟨b, off, rfl, fun k hk => ?_⟩
        rw [List.length_map, List.length_range] at hk
        rw [at0_map f len k hk]
        obtain ⟨_, _, hcell⟩ := World.cells?_some (hf k hk).1
        have e0 := hcell 0 (by omega)
        have e1 := hcell 1 (by omega)
        have e2 := hcell 2 (by omega)
        have e3 := hcell 3 (by omega)
        rw [add_add, add_plain] at e0 e1 e2 e3
        refine ⟨by simpa using e0, by simpa [Nat.add_assoc] using e1, by simpa [Nat.add_assoc] using e2, by simpa [Nat.add_assoc] using e3⟩
    · intro hw
      refine ⟨?_, fun k hk => ?_⟩
      · have := hw ((((List.range len).map D).length + ((List.range (m - len)).map fun j => D (len + j)).length) * Tryd.prog.bytesOf 49) (by simp [DataW.weights, Tryd.underlying23])
        rw [Tryd.bytesProp] at this
        simp only [List.length_map, List.length_range, reachBytes] at this
        simp only [List.length_map, List.length_range]
        omega
      · rw [List.length_map, List.length_range] at hk
        rw [at0_map f len k hk]
        refine (hf k hk).2 fun n hn => hw n ?_
        have := weights_all_mem (P := Tryd.prog) (e := 49) (ds := (List.range len).map D) (d := D k) (List.mem_map.2 ⟨k, List.mem_range.2 hk, rfl⟩) n hn
        simp only [DataW.weights, Tryd.underlying23, List.mem_cons, List.mem_append]
        right; left
        exact this
/-- one ask in memory -/
def AskAt (W : World) (b off : Nat) (vl : Value) (l : List Pr) (p : Int) (vb : Value) (bs : List Int) : Prop :=
  W.cell? ⟨b, off, none⟩ = some vl ∧ W.cell? ⟨b, off + 1, none⟩ = some (.int .i64 p) ∧ W.cell? ⟨b, off + 2, none⟩ = some vb ∧ Prp W vl l ∧ Held l ∧ Byt W vb bs ∧ bs.length ≤ 140737488351232 ∧ -9223372036854775808 ≤ p ∧ p ≤ 9223372036854775807
/-- what a readable argument of layer 3's statements is -/
def AsksAt (W : World) (v : Value) : Prop :=
  ∃ ao len cap, v = .slice ao len cap ∧ len ≤ maxLen ∧ (len = 0 ∨ ∃ b off, ao = some ⟨b, off, none⟩ ∧ ∃ (vl : Nat → Value) (ls : Nat → List Pr) (pl : Nat → Int) (vb : Nat → Value) (bs : Nat → List Int),
    ∀ k, k < len → AskAt W b (off + k * 3) (vl k) (ls k) (pl k) (vb k) (bs k))
theorem asks_open {H : Type} {enc : TypeId × Value → H} {W : World} {v : Value} {d : DataW H} {ps : List MemPlace} (h : DataW.Trod enc Tryd.prog W 0 (fun _ => true) true 22 v d ps) (hs : ∃ ao len cap, v = .slice ao len cap)
    (hw : ∀ n ∈ d.weights Tryd.prog 22, n ≤ reachBytes) : AsksAt W v := by
  obtain ⟨ao, len, cap, rfl⟩ := hs
  obtain ⟨fuel, hf⟩ := h
  refine ⟨ao, len, cap, rfl, ?_⟩
  rcases open_slice Tryd.underlying22 hf with ⟨hcs, hx⟩ | ⟨a, len', cap', m, n, D, Pl, hcs, _, hl, hm, hmm, hx, hel⟩
  · simp [Value.cells] at hcs
    obtain ⟨rfl, rfl, rfl⟩ := hcs
    exact ⟨by simp, .inl rfl⟩
  · simp [Value.cells] at hcs
    obtain ⟨rfl, rfl, rfl⟩ := hcs
    refine ⟨by omega, ?_⟩
    simp only [if_true] at hmm
    subst hmm
    by_cases h0 : len = 0
    · exact .inl h0
    right
    simp only [Prod.mk.injEq] at hx
    obtain ⟨rfl, _⟩ := hx
    rw [Tryd.cellsAsk] at hel
    obtain ⟨b, off, spot⟩ := a
    have hspot : spot = none := by
      obtain ⟨cs', h1, _⟩ := hel 0 (by omega)
      obtain ⟨_, hlen, hcell⟩ := World.cells?_some h1
      have hc := hcell 0 (by omega)
      rw [List.getElem?_eq_getElem (by omega)] at hc
      simpa [Addr.add] using World.cell?_spot hc
    subst hspot
    have key : ∀ i, i < len → ∃ x : Value × List Pr × Int × Value × List Int, AskAt W b (off + i * 3) x.1 x.2.1 x.2.2.1 x.2.2.2.1 x.2.2.2.2 := by
      intro i hi
      obtain ⟨cs', h1, h2⟩ := hel i (by omega)
      obtain ⟨_, hlen, hcell⟩ := World.cells?_some h1
      obtain ⟨xs, k, hk, hxy, _, hxl, hfl⟩ := DataW.trod_struct Tryd.underlying26 h2
      match xs, hxl, cs', hlen with
      | [y0, y1, y2], _, [v0, v1, v2], _ =>
        have g0 := hfl 0 _ rfl
        have g1 := hfl 1 _ rfl
        have g2 := hfl 2 _ rfl
        simp [Tryd.cellsInt, Tryd.cellsBytes, Tryd.cellsProps] at g0 g1 g2
        obtain ⟨z1, hz1, hy1, hzw⟩ := DataW.trod_int Tryd.underlying3 g1
        simp at hz1
        subst hz1
        obtain ⟨d0, p0'⟩ := y0
        obtain ⟨d2, p2'⟩ := y2
        obtain ⟨l, hpl, hhl⟩ := prp_of_trod g0
        obtain ⟨bs, hb, hbl⟩ := byt_of_trod g2
        have e0 := hcell 0 (by omega)
        have e1 := hcell 1 (by omega)
        have e2 := hcell 2 (by omega)
        rw [add_add, add_plain] at e0 e1 e2
        have h1' : IntKind.i64.min = -9223372036854775808 := rfl
        have h2' : IntKind.i64.max = 9223372036854775807 := rfl
        simp only [Lit.wf, Bool.and_eq_true, decide_eq_true_eq] at hzw
        simp only [Prod.mk.injEq] at hxy
        have hD : ∀ n, n ∈ (D i).weights Tryd.prog 26 → n ≤ reachBytes := fun n hn => hw n (by
          have := weights_all_mem (P := Tryd.prog) (e := 26) (ds := (List.range len).map D) (d := D i) (List.mem_map.2 ⟨i, List.mem_range.2 hi, rfl⟩) n hn
          simp only [DataW.weights, Tryd.underlying22, List.mem_cons, List.mem_append]
          right; left
          exact this)
        rw [hxy.1] at hD
        refine ⟨(v0, l, z1, v2, bs), by simpa using e0, by simpa [Nat.add_assoc] using e1, by simpa [Nat.add_assoc] using e2, hpl, hhl ?_, hb, hbl ?_, by show _ ≤ z1; omega, by show z1 ≤ _; omega⟩
        · intro n hn
          apply hD
          simp only [DataW.weights, Tryd.underlying26, DataW.weightsEach, List.map, List.mem_append]
          left
          exact hn
        · intro n hn
          apply hD
          simp only [DataW.weights, Tryd.underlying26, DataW.weightsEach, List.map, List.mem_append]
          right; right; left
          exact hn
    obtain ⟨f, hf'⟩ := choose_lt key
    exact ⟨b, off, rfl, fun k => (f k).1, fun k => (f k).2.1, fun k => (f k).2.2.1, fun k => (f k).2.2.2.1, fun k => (f k).2.2.2.2, fun k hk => hf' k hk⟩
end Go.Proofs.YtpfpollejhdbgaaDoor
/- Proved here: dovecoteref0.CopyProps copies properties to memory of its own, EqProps tells whether two lists are one. Helper contracts. -/
namespace Go.Proofs.YtpfpollejhdbgaaDoor
open Go.RowKit
set_option maxRecDepth 100000

/-- a list's cells, four a property -/
def pcs (l : List Pr) : List Value := l.flatMap fun p => [.int .i64 p.1, .int .i64 p.2.1, .string p.2.2.1, .string p.2.2.2]
theorem Tryd.infoProp : (Tryd.prog.info? 49).map (fun i => (i.zero, i.size, i.bytes)) = some (some (.agg #[.int .i64 0, .int .i64 0, .string ⟨#[]⟩, .string ⟨#[]⟩]), 4, 48) := by kernel_rfl
theorem pcs_length (l : List Pr) : (pcs l).length = l.length * 4 := by
  induction l with
  | nil => rfl
  | cons p l ih => unfold pcs at *; rw [List.flatMap_cons, List.length_append, ih]; simp; omega
theorem pcs_get (l : List Pr) : ∀ k, k < l.length → (pcs l)[k * 4]? = some (.int .i64 (at0 l k).1) ∧ (pcs l)[k * 4 + 1]? = some (.int .i64 (at0 l k).2.1) ∧ (pcs l)[k * 4 + 2]? = some (.string (at0 l k).2.2.1) ∧ (pcs l)[k * 4 + 3]? = some (.string (at0 l k).2.2.2) := by
  induction l with
  | nil => intro k hk; simp at hk
  | cons p l ih =>
    intro k hk
    have e : pcs (p :: l) = [.int .i64 p.1, .int .i64 p.2.1, .string p.2.2.1, .string p.2.2.2] ++ pcs l := rfl
    rw [e]
    rcases k with _ | k
    · exact ⟨rfl, rfl, rfl, rfl⟩
    · have h := ih k (by simpa using hk)
      have ea : at0 (p :: l) (k + 1) = at0 l k := by unfold at0; rw [List.getD_cons_succ]
      rw [ea]
      refine ⟨?_, ?_, ?_, ?_⟩
      · rw [List.getElem?_append_right (by simp; omega)]; rw [show (k + 1) * 4 - [Value.int .i64 p.1, .int .i64 p.2.1, .string p.2.2.1, .string p.2.2.2].length = k * 4 from by simp; omega]; exact h.1
      · rw [List.getElem?_append_right (by simp; omega)]; rw [show (k + 1) * 4 + 1 - [Value.int .i64 p.1, .int .i64 p.2.1, .string p.2.2.1, .string p.2.2.2].length = k * 4 + 1 from by simp; omega]; exact h.2.1
      · rw [List.getElem?_append_right (by simp; omega)]; rw [show (k + 1) * 4 + 2 - [Value.int .i64 p.1, .int .i64 p.2.1, .string p.2.2.1, .string p.2.2.2].length = k * 4 + 2 from by simp; omega]; exact h.2.2.1
      · rw [List.getElem?_append_right (by simp; omega)]; rw [show (k + 1) * 4 + 3 - [Value.int .i64 p.1, .int .i64 p.2.1, .string p.2.2.1, .string p.2.2.2].length = k * 4 + 3 from by simp; omega]; exact h.2.2.2
theorem prp_of_owns {w : World} {B : Nat} {e : TypeId} {v : Value} {l : List Pr} (h : w.ownsRow B e 4 v l.length (pcs l)) : Prp w v l := by
  rcases h.2 with ⟨rfl, h1⟩ | ⟨g, cap, cur, rfl, hB, hg, rest⟩
  · have : l = [] := List.length_eq_zero_iff.1 h1
    subst this
    exact ⟨none, 0, rfl, .inl rfl⟩
  · refine ⟨_, cap, rfl, .inr ⟨g, 0, rfl, fun k hk => ?_⟩⟩
    obtain ⟨h0, h1, h2, h3⟩ := pcs_get l k hk
    refine ⟨?_, ?_, ?_, ?_⟩
    · rw [Nat.zero_add, h.cellAt (k * 4) (by omega)]; exact h0
    · rw [Nat.zero_add, h.cellAt (k * 4 + 1) (by omega)]; exact h1
    · rw [Nat.zero_add, h.cellAt (k * 4 + 2) (by omega)]; exact h2
    · rw [Nat.zero_add, h.cellAt (k * 4 + 3) (by omega)]; exact h3
theorem pcs_snoc (l : List Pr) (k : Nat) (h : k < l.length) : pcs (l.take (k + 1)) = pcs (l.take k) ++ [.int .i64 (at0 l k).1, .int .i64 (at0 l k).2.1, .string (at0 l k).2.2.1, .string (at0 l k).2.2.2] := by
  rw [take_snoc0 l k h]
  unfold pcs
  rw [List.flatMap_append]
  rfl
theorem four_cell (w : World) (a b c d : Value) (t : TypeId) : ∀ j u, [a, b, c, d][j]? = some u → (w.alloc (.cells #[a, b, c, d] t)).cell? ((⟨w.heap.size, 0, none⟩ : Addr).add j) = some u := by
  intro j u hj
  match j, hj with
  | 0, hj => simp at hj; subst hj; simp [Addr.add]
  | 1, hj => simp at hj; subst hj; simp [Addr.add]
  | 2, hj => simp at hj; subst hj; simp [Addr.add]
  | 3, hj => simp at hj; subst hj; simp [Addr.add]
theorem four_one (a b : Int) (c d : ByteArray) : ∀ u ∈ [Value.int .i64 a, .int .i64 b, .string c, .string d], u.oneCell' = true := by
  intro u hu; simp at hu; rcases hu with rfl | rfl | rfl | rfl <;> rfl
set_option maxHeartbeats 4000000 in
theorem copyp_core (b off cap : Nat) (l : List Pr) (len : Nat) (w : World) (hlen : l.length = len) (hmx : len ≤ 1000000) (hl : PrAt w b off l) :
    Calls Tryd.prog 13 #[.slice (some ⟨b, off, none⟩) len cap] w fun e w' => ∃ v, e = .returned v ∧ Hid (w'.ownsRow w.heap.size 49 4 v len (pcs l)) ∧ Below w.heap.size w w' := by
  obtain ⟨i0, hi, hz0, hz1, hz2⟩ := info_parts Tryd.infoProp
  have HL := hide hl
  have HLEN := hide hlen
  clear hl hlen
  go_enter Tryd.func13, Tryd.ntmps13
  go_wp2
  go_loopw [3, 4] (fun v i wr => ∃ k : Nat, k ≤ len ∧ i = .int .i64 k ∧ Hid (wr.ownsRow w.heap.size 49 4 v k (pcs (l.take k))) ∧ Below w.heap.size w wr) (fun _ i _ => len - (intOf i).toNat)
  case atStart => exact ⟨0, Nat.zero_le _, rfl, World.ownsRow_nil _ _ _ _, Below.refl _ _⟩
  case round =>
    obtain ⟨k, hk, rfl, HOWN, hbel⟩ := hrel
    by_cases hlt : k < len
    · have HLTk : Hid (k < l.length) := by show _ < _; rw [unhide HLEN]; exact hlt
      obtain ⟨h0, h1, h2, h3⟩ := ((unhide HL).below hbel) k (unhide HLTk)
      have HPS := hide (pcs_snoc l k (unhide HLTk))
      obtain ⟨id, n, s, t, hp⟩ : ∃ id n s t, at0 l k = (id, n, s, t) := ⟨_, _, _, _, rfl⟩
      rw [hp] at h0 h1 h2 h3 HPS
      simp only at h0 h1 h2 h3
      have HBEL := hide hbel
      have hsz := hbel.size
      clear hp hbel
      go_wp2_with (first
        | (at_builtin; refine wpList_append_own _ rfl _ _ 23 rfl w.heap.size 49 i0 _ 4 48 Tryd.underlying23 hi hz0 hz1 hz2 rfl (by decide) _ _ _ rfl ((unhide HOWN).alloc _) ⟨wr.heap.size, 0, none⟩ 1 1 [.int .i64 id, .int .i64 n, .string s, .string t] rfl rfl (four_cell _ _ _ _ _ _) (four_one _ _ _ _) (by unfold maxLen; omega) (by omega) (by simp; omega) ?_)
        | go_in)
      intro v' w1 hown' hgrow _
      have HB1 : Hid (Below w.heap.size w w1) := ((unhide HBEL).alloc hsz _).grown hgrow (by simp; omega) (fun k hk => ((unhide HOWN).lt k hk).1)
      have HO1 : Hid (w1.ownsRow w.heap.size 49 4 v' (k + 1) (pcs (l.take (k + 1)))) := by show World.ownsRow _ _ _ _ _ _ _; rw [unhide HPS]; exact hown'
      clear hgrow hown'
      go_wp2
      go_roundw
      case rel => exact ⟨k + 1, by omega, by go_num, HO1, unhide HB1⟩
      case measure => simp [intOf]; omega
    · obtain rfl : k = len := by omega
      have HO1 : Hid (wr.ownsRow w.heap.size 49 4 u3 k (pcs l)) := by
        show World.ownsRow _ _ _ _ _ _ _
        have := unhide HOWN
        rw [List.take_of_length_le (Nat.le_of_eq (unhide HLEN))] at this
        exact this
      go_wp2
      go_ret
      exact ⟨_, rfl, HO1, hbel⟩
theorem copyp_nil (ao : Option Addr) (cap : Nat) (w : World) : Calls Tryd.prog 13 #[.slice ao 0 cap] w fun e w' => e = .returned (.slice none 0 0) ∧ w' = w := by
  go_enter Tryd.func13, Tryd.ntmps13
  go_wp2
  refine wp_loop_rounds 1 ?_
  rw [rounds_succ]
  go_wp2
  go_ret
  exact ⟨rfl, rfl⟩
theorem copyp_any (v : Value) (l : List Pr) (w : World) (h : Prp w v l) (hmx : l.length ≤ 1000000) : Calls Tryd.prog 13 #[v] w fun e w' => ∃ v, e = .returned v ∧ Hid (Prp w' v l) ∧ Below w.heap.size w w' := by
  obtain ⟨ao, cap, rfl, hc⟩ := h
  rcases hc with rfl | ⟨b, off, rfl, hc⟩
  · refine (copyp_nil ao cap w).mono ?_
    rintro e w' ⟨rfl, rfl⟩
    exact ⟨_, rfl, ⟨none, 0, rfl, .inl rfl⟩, Below.refl _ _⟩
  · refine (copyp_core b off cap l _ w rfl hmx hc).mono ?_
    rintro e w' ⟨v', rfl, ho, hb⟩
    exact ⟨v', rfl, prp_of_owns (unhide ho), hb⟩

theorem Tryd.eqgP : Tryd.prog.eqGuardType Tryd.prog.depth 49 = false := by kernel_rfl
theorem Tryd.stoodP : Tryd.prog.stoodInHeld 49 = false := by kernel_rfl
theorem Tryd.undP : Tryd.prog.underlying 49 = some (.struct (Tryd.prog.fieldsOf 49)) := by kernel_rfl
def same (p q : Pr) : Bool := (p.1 == q.1 && p.2.1 == q.2.1 && p.2.2.1.toList == q.2.2.1.toList && p.2.2.2.toList == q.2.2.2.toList)
theorem neqP (id n id' n' : Int) (s t s' t' : ByteArray) (w : World) : (binOp .neq 49 (.agg #[.int .i64 id, .int .i64 n, .string s, .string t]) (.agg #[.int .i64 id', .int .i64 n', .string s', .string t'])).run Tryd.prog w = .ok (.bool (!(same (id, n, s, t) (id', n', s', t')))) w := by
  rw [run_neq_struct, run_equalIn_struct w 9999 49 _ _ Tryd.undP Tryd.stoodP]
  rw [show Tryd.prog.fieldsOf 49 = _ from rfl]
  simp [Program.fieldsOf, Tryd.underlying49, Op.eqFields, go_sem]
  unfold same
  by_cases h1 : id = id'
  · by_cases h2 : n = n'
    · by_cases h3 : s.toList = s'.toList
      · by_cases h4 : t.toList = t'.toList
        · simp [h1, h2, h3, h4]
        · simp [h1, h2, h3, h4]
      · simp [h1, h2, h3]
    · simp [h1, h2]
  · simp [h1]
theorem toList_inj {a b : ByteArray} (h : a.toList = b.toList) : a = b := by
  rw [ByteArray.toList_eq, ByteArray.toList_eq] at h
  obtain ⟨⟨x⟩⟩ := a
  obtain ⟨⟨y⟩⟩ := b
  simp at h
  rw [h]
theorem same_iff (p q : Pr) : same p q = true ↔ p = q := by
  obtain ⟨a, b, c, d⟩ := p
  obtain ⟨a', b', c', d'⟩ := q
  unfold same
  constructor
  · intro h
    simp only [Bool.and_eq_true, beq_iff_eq] at h
    obtain ⟨⟨⟨h1, h2⟩, h3⟩, h4⟩ := h
    rw [h1, h2, toList_inj h3, toList_inj h4]
  · rintro h
    injection h with h1 h
    injection h with h2 h
    injection h with h3 h4
    subst h1 h2 h3 h4
    simp
set_option maxHeartbeats 4000000 in
theorem eqp_core (ba oa bb ob ca cb : Nat) (l m : List Pr) (len : Nat) (w : World) (hl : l.length = len) (hm : m.length = len) (hmx : len ≤ 1000000000) (ha : PrAt w ba oa l) (hb : PrAt w bb ob m) :
    Calls Tryd.prog 18 #[.slice (some ⟨ba, oa, none⟩) len ca, .slice (some ⟨bb, ob, none⟩) len cb] w fun e w' => (∃ b, e = .returned (.bool b) ∧ (b = true ↔ ∀ j, j < len → at0 l j = at0 m j)) ∧ ∃ k, w' = w.drewN k := by
  have HL := hide hl
  have HM := hide hm
  have HA := hide ha
  have HB := hide hb
  clear hl hm ha hb
  go_enter Tryd.func18, Tryd.ntmps18
  go_wp2
  go_loopw [5] (fun i wr => ∃ k q : Nat, k ≤ len ∧ i = .int .i64 k ∧ wr = w.drewN q ∧ Hid (∀ j, j < k → at0 l j = at0 m j)) (fun i _ => len - (intOf i).toNat)
  case atStart => exact ⟨0, 0, Nat.zero_le _, rfl, rfl, fun j hj => absurd hj (Nat.not_lt_zero j)⟩
  case round =>
    obtain ⟨k, q, hk, rfl, rfl, HALL⟩ := hrel
    by_cases hlt : k < len
    · obtain ⟨h0, h1, h2, h3⟩ := (unhide HA) k (by rw [unhide HL]; exact hlt)
      obtain ⟨g0, g1, g2, g3⟩ := (unhide HB) k (by rw [unhide HM]; exact hlt)
      obtain ⟨id, n, s, t, hp⟩ : ∃ id n s t, at0 l k = (id, n, s, t) := ⟨_, _, _, _, rfl⟩
      obtain ⟨id', n', s', t', hp'⟩ : ∃ id n s t, at0 m k = (id, n, s, t) := ⟨_, _, _, _, rfl⟩
      rw [hp] at h0 h1 h2 h3
      rw [hp'] at g0 g1 g2 g3
      simp only at h0 h1 h2 h3 g0 g1 g2 g3
      have HP := hide hp
      have HP' := hide hp'
      clear hp hp'
      have qg := Tryd.eqgP
      have qn := fun W => neqP id n id' n' s t s' t' W
      generalize hsb : same (id, n, s, t) (id', n', s', t') = sb at qn
      have HSB := hide hsb
      clear hsb
      cases sb
      · have HNE : Hid (at0 l k ≠ at0 m k) := fun e => by
          rw [unhide HP, unhide HP'] at e
          have := (same_iff _ _).2 e
          rw [unhide HSB] at this
          cases this
        go_wp2
        go_quiet (fail)
        go_wp2
        go_ret
        refine ⟨⟨_, rfl, ?_⟩, q + nq, drewN_drewN _ _ _⟩
        constructor
        · intro h; cases h
        · intro h; exact absurd (h k hlt) (unhide HNE)
      · have HE : Hid (at0 l k = at0 m k) := by
          show _ = _
          rw [unhide HP, unhide HP']
          exact (same_iff _ _).1 (unhide HSB)
        go_wp2
        go_quiet (fail)
        go_wp2
        go_roundw
        case rel => exact ⟨k + 1, _, by omega, by go_num, rfl, fun j hj => by
          rcases Nat.lt_succ_iff_lt_or_eq.1 hj with h | h
          · exact (unhide HALL) j h
          · rw [h]; exact unhide HE⟩
        case measure => simp [intOf]; omega
    · go_wp2
      go_ret
      exact ⟨⟨_, rfl, fun _ j hj => (unhide HALL) j (by omega), fun _ => rfl⟩, _, rfl⟩
theorem eqp_len (ao bo : Option Addr) (n m ca cb : Nat) (w : World) (h : n ≠ m) :
    Calls Tryd.prog 18 #[.slice ao n ca, .slice bo m cb] w fun e w' => e = .returned (.bool false) ∧ w' = w := by
  have h1 : ((n : Int) == (m : Int)) = false := beq_eq_false_iff_ne.2 (by omega)
  go_enter Tryd.func18, Tryd.ntmps18
  go_wp2
  go_ret
  exact ⟨rfl, rfl⟩
theorem eqp_nil (ao bo : Option Addr) (ca cb : Nat) (w : World) :
    Calls Tryd.prog 18 #[.slice ao 0 ca, .slice bo 0 cb] w fun e w' => e = .returned (.bool true) ∧ w' = w := by
  go_enter Tryd.func18, Tryd.ntmps18
  go_wp2
  refine wp_loop_rounds 1 ?_
  rw [rounds_succ]
  go_wp2
  go_ret
  exact ⟨rfl, rfl⟩
theorem at0_ext {l m : List Pr} (hl : l.length = m.length) (h : ∀ j, j < l.length → at0 l j = at0 m j) : l = m := by
  apply List.ext_getElem hl
  intro i h1 h2
  have := h i h1
  unfold at0 at this
  rw [List.getD_eq_getElem?_getD, List.getD_eq_getElem?_getD, List.getElem?_eq_getElem h1, List.getElem?_eq_getElem h2] at this
  exact this
/-- two lists that are one -/
theorem eqp_same (va vb : Value) (l : List Pr) (w : World) (ha : Prp w va l) (hb : Prp w vb l) (hmx : l.length ≤ 1000000000) :
    Calls Tryd.prog 18 #[va, vb] w fun e w' => e = .returned (.bool true) ∧ Below w.heap.size w w' := by
  obtain ⟨ao, ca, rfl, ha⟩ := ha
  obtain ⟨bo, cb, rfl, hb⟩ := hb
  rcases ha with rfl | ⟨ba, oa, rfl, hca⟩
  · refine (eqp_nil _ _ _ _ _).mono ?_
    rintro e w' ⟨rfl, rfl⟩
    exact ⟨rfl, Below.refl _ _⟩
  · rcases hb with rfl | ⟨bb, ob, rfl, hcb⟩
    · refine (eqp_nil _ _ _ _ _).mono ?_
      rintro e w' ⟨rfl, rfl⟩
      exact ⟨rfl, Below.refl _ _⟩
    · refine (eqp_core ba oa bb ob ca cb l l _ w rfl rfl hmx hca hcb).mono ?_
      rintro e w' ⟨⟨b, rfl, hbb⟩, k, rfl⟩
      refine ⟨ret_bool (hbb.2 (fun _ _ => rfl)), below_drewN (Below.refl _ _) k⟩
end Go.Proofs.YtpfpollejhdbgaaDoor
