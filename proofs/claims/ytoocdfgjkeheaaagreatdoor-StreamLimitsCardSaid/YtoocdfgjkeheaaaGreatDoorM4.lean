/- Proved here: helpers, one text behind the other. -/
import Derived.Test.YtoocdfgjkeheaaaGreatDoorM3
import Derived.Laws.StructEq
import Derived.Test.YtoocdfgjkeheaaaGreatDoorM2
import Derived.Test.YtoocdfgjkeheaaaGreatDoorM1
import Derived.Deep.MidRow
import Derived.Laws.AppendOwn
import Derived.Deep.Cut
import Derived.Deep.CutBlock
/- Proved here: prop.tell tells the bytes of properties that may stand, or an error around ErrForm. Helper contracts. -/
namespace Go.Proofs.YtoocdfgjkeheaaaGreatDoor
open Go.RowKit
set_option maxRecDepth 100000

/-- the row of what has come so far -/
def RowAt (w : World) (R : Nat) (place : Int) (f : Nat → Bool) : Prop :=
  w.cell? ⟨R, 0, none⟩ = some (.int .i64 place) ∧ ∀ j, j ≤ 42 → w.cell? ⟨R, 1 + j, none⟩ = some (.bool (f j)) ∧ w.frozen? ⟨R, 1 + j, none⟩ = false
theorem RowAt.lt {w : World} {R : Nat} {place : Int} {f : Nat → Bool} (h : RowAt w R place f) : R < w.heap.size := cell_lt h.1
theorem RowAt.below {w w' : World} {R : Nat} {place : Int} {f : Nat → Bool} (h : RowAt w R place f) (hb : Below w.heap.size w w') : RowAt w' R place f := by
  have hl := h.lt
  exact ⟨(hb.cell (p := ⟨R, 0, none⟩) hl).trans h.1, fun j hj => ⟨(hb.cell (p := ⟨R, 1 + j, none⟩) hl).trans (h.2 j hj).1, (hb.frozen (p := ⟨R, 1 + j, none⟩) hl).trans (h.2 j hj).2⟩⟩
theorem RowAt.set {w : World} {R : Nat} {place : Int} {f : Nat → Bool} (h : RowAt w R place f) (k : Nat) (hk : k ≤ 42) : RowAt (w.setCell ⟨R, 1 + k, none⟩ (.bool true)) R place (fun j => f j || decide (k = j)) := by
  refine ⟨?_, fun j hj => ⟨?_, ?_⟩⟩
  · rw [World.cell?_setCell_other _ _ _ _ (by intro e; simp at e)]; exact h.1
  · by_cases e : k = j
    · subst e
      rw [World.cell?_setCell_same _ _ _ (h.2 k hj).1]; simp
    · rw [World.cell?_setCell_other _ _ _ _ (fun e' => e (by injection e' with _ h2; omega)), (h.2 j hj).1]; simp [e]
  · rw [World.frozen?_setCell]; exact (h.2 j hj).2
theorem RowAt.congr {w : World} {R : Nat} {place : Int} {f g : Nat → Bool} (h : RowAt w R place f) (e : ∀ j, j ≤ 42 → f j = g j) : RowAt w R place g := ⟨h.1, fun j hj => by rw [← e j hj]; exact h.2 j hj⟩
theorem rowAt_new (w : World) (place : Int) : RowAt (w.alloc (.cells (rowA place) 235)) w.heap.size place (fun _ => false) := by
  refine ⟨by simp [rowA], fun j hj => ⟨?_, by simp⟩⟩
  rw [World.cell?_alloc_at _ _ _ _ rfl]
  unfold rowA
  rw [Array.getElem?_append_right (by simp)]
  rw [Array.getElem?_replicate, if_pos (show 1 + j - #[Value.int IntKind.i64 place].size < 43 from by simp; omega)]
theorem owns_set {w : World} {B : Nat} {e : TypeId} {s : Nat} {v : Value} {n : Nat} {xs : List Value} (h : w.ownsRow B e s v n xs) (p : Addr) (u : Value) (hp : p.block < B) : (w.setCell p u).ownsRow B e s v n xs := by
  refine ⟨h.1, ?_⟩
  rcases h.2 with h1 | ⟨g, cap, cur, hv, hB, hg, rest⟩
  · exact .inl h1
  · exact .inr ⟨g, cap, cur, hv, hB, by rw [Below.heap_setCell w p u g (by omega)]; exact hg, rest⟩

theorem row_grown {w w' : World} {R : Nat} {place : Int} {f : Nat → Bool} {o : Option Nat} (h : RowAt w R place f) (hg : w.grownBy w' o) (ho : ∀ g, o = some g → g ≠ R) : RowAt w' R place f := by
  have hb : w'.heap[R]? = w.heap[R]? := hg.block R h.lt (fun e => ho R e.symm rfl)
  exact ⟨(World.cell?_of_block (w := w) (a := ⟨R, 0, none⟩) hb).trans h.1, fun j hj => ⟨(World.cell?_of_block (w := w) (a := ⟨R, 1 + j, none⟩) hb).trans (h.2 j hj).1, (World.frozen?_of_block (w := w) (a := ⟨R, 1 + j, none⟩) hb).trans (h.2 j hj).2⟩⟩
theorem take_min (l : List Pr) (k : Nat) (h : l.length = k) : l.take 32 = l.take (min k 32) := by
  rcases Nat.le_total k 32 with a | a
  · rw [Nat.min_eq_left a, List.take_of_length_le (by omega), List.take_of_length_le (by omega)]
  · rw [Nat.min_eq_right a]
/-- what take says of a property -/
def tk (place id n : Int) (s t : ByteArray) (sn : Bool) : Bool := mst id place && fit (id, n, s, t) && (rep id place || !sn)
theorem take_bad (R : Nat) (place id n : Int) (s t : ByteArray) (f : Nat → Bool) (w : World) (hR : RowAt w R place f) (h : tk place id n s t (f id.toNat) = false) :
    Calls Tryz.prog 200 #[.pointer (some ⟨R, 0, none⟩), .agg #[.int .i64 id, .int .i64 n, .string s, .string t]] w (TakeNo w) := by
  unfold tk at h
  by_cases hm : mst id place = true
  · by_cases hf : fit (id, n, s, t) = true
    · obtain ⟨h1, h2⟩ := id_range id place hm
      obtain ⟨k, rfl⟩ : ∃ k : Nat, id = k := ⟨id.toNat, by omega⟩
      rw [hm, hf] at h
      simp only [Bool.and_true, Bool.true_and, Int.toNat_natCast, Bool.or_eq_false_iff, Bool.not_eq_false'] at h
      exact take_no3 R k place n s t w (by omega) hR.1 (by rw [(hR.2 k (by omega)).1, h.2]) hm hf h.1
    · exact take_no2 R place id n s t w hR.1 hm (by simpa using hf)
  · exact take_no1 R place id n s t w hR.1 (by simpa using hm)
theorem take_good (R k : Nat) (place n : Int) (s t : ByteArray) (f : Nat → Bool) (w : World) (hk : k ≤ 42) (hR : RowAt w R place f) (h : tk place k n s t (f k) = true) :
    Calls Tryz.prog 200 #[.pointer (some ⟨R, 0, none⟩), .agg #[.int .i64 (k : Int), .int .i64 n, .string s, .string t]] w fun e w' => e = .returned .nilIface ∧ ∃ w1, Below w.heap.size w w1 ∧ w' = w1.setCell ⟨R, 1 + k, none⟩ (.bool true) := by
  unfold tk at h
  rw [Bool.and_eq_true, Bool.and_eq_true] at h
  obtain ⟨⟨hm, hf⟩, hr⟩ := h
  have hc := (hR.2 k hk).1
  have hz := (hR.2 k hk).2
  cases hs : f k
  · rw [hs] at hc
    exact take_ok0 R k place n s t w hk hR.1 hc hz hm hf
  · rw [hs] at hc hr
    exact take_ok1 R k place n s t w hk hR.1 hc hz hm hf (by simpa using hr)
/-- .. as tell and read use it -/
theorem take_use (R k : Nat) (place n : Int) (s t : ByteArray) (f g : Nat → Bool) (w : World) (hk : k ≤ 42) (hR : RowAt w R place f) (h : tk place k n s t (f k) = true) (hg : ∀ j, j ≤ 42 → (f j || decide (k = j)) = g j) (B : Nat) (hB : B ≤ R) :
    Calls Tryz.prog 200 #[.pointer (some ⟨R, 0, none⟩), .agg #[.int .i64 (k : Int), .int .i64 n, .string s, .string t]] w fun e w' => e = .returned .nilIface ∧ Hid (RowAt w' R place g) ∧ Below B w w' ∧ Hid (∀ (B' : Nat) (v : Value) (m : Nat) (xs : List Value) (e : TypeId) (q : Nat), R < B' → w.ownsRow B' e q v m xs → w'.ownsRow B' e q v m xs) ∧ Hid (∀ (b i : Nat), b ≠ R → b < w.heap.size → w'.cell? ⟨b, i, none⟩ = w.cell? ⟨b, i, none⟩) := by
  refine (take_good R k place n s t f w hk hR h).mono ?_
  rintro e w' ⟨rfl, w1, hb, rfl⟩
  have hl := hR.lt
  refine ⟨rfl, ((hR.below hb).set k hk).congr hg, (hb.mono (by omega)).setCell hB _, ?_, ?_⟩
  · intro B' v m xs e q hB' ho
    exact owns_set (owns_below ho hb) _ _ hB'
  · intro b i hbR hbw
    rw [World.cell?_setCell_far _ _ _ _ (by simpa using Ne.symm hbR)]
    exact hb.cell (p := ⟨b, i, none⟩) hbw

/-- properties in memory -/
def PrAt (w : World) (b off : Nat) (l : List Pr) : Prop := ∀ k, k < l.length → w.cell? ⟨b, off + k * 4, none⟩ = some (.int .i64 (at0 l k).1) ∧ w.cell? ⟨b, off + k * 4 + 1, none⟩ = some (.int .i64 (at0 l k).2.1) ∧ w.cell? ⟨b, off + k * 4 + 2, none⟩ = some (.string (at0 l k).2.2.1) ∧ w.cell? ⟨b, off + k * 4 + 3, none⟩ = some (.string (at0 l k).2.2.2)
theorem PrAt.below {w w' : World} {b off : Nat} {l : List Pr} (h : PrAt w b off l) (hb : Below w.heap.size w w') : PrAt w' b off l := fun k hk => by
  obtain ⟨h0, h1, h2, h3⟩ := h k hk
  have hl := cell_lt h0
  exact ⟨(hb.cell (p := ⟨b, off + k * 4, none⟩) hl).trans h0, (hb.cell (p := ⟨b, off + k * 4 + 1, none⟩) hl).trans h1, (hb.cell (p := ⟨b, off + k * 4 + 2, none⟩) hl).trans h2, (hb.cell (p := ⟨b, off + k * 4 + 3, none⟩) hl).trans h3⟩
/-- their texts are not beyond what a length tells -/
def Small (l : List Pr) : Prop := ∀ k, k < l.length → (at0 l k).2.2.1.size ≤ 4611686018427387904 ∧ (at0 l k).2.2.2.size ≤ 4611686018427387904
def TellPost (place : Int) (l : List Pr) (w : World) (e : Ending) (w' : World) : Prop :=
  (okTo place l l.length ∧ ∃ v, e = .returned (.tuple #[v, .int .i64 (body l).length, .nilIface]) ∧ Hid (Byt w' v (body (l.take 32))) ∧ Below w.heap.size w w') ∨
  (chkP place l = 1 ∧ ∃ E, e = .returned (.tuple #[.slice none 0 0, .int .i64 0, .iface 149 E]) ∧ Hid (ErrP w' (.iface 149 E) 1) ∧ Below w.heap.size w w')
theorem okAt_tk (place : Int) (l : List Pr) (k : Nat) : okAt place l k = (tk place (at0 l k).1 (at0 l k).2.1 (at0 l k).2.2.1 (at0 l k).2.2.2 (seen l k (at0 l k).1) && txo (at0 l k)) := by
  unfold okAt tk may
  rw [show ((at0 l k).1, (at0 l k).2.1, (at0 l k).2.2.1, (at0 l k).2.2.2) = at0 l k from rfl]
  cases mst (at0 l k).1 place <;> cases fit (at0 l k) <;> cases txo (at0 l k) <;> cases (rep (at0 l k).1 place || !seen l k (at0 l k).1) <;> rfl
theorem kd_of_mst (id place : Int) (h : mst id place = true) : kd id ≠ 0 := by
  revert h
  refine id_cases (P := fun id => mst id place = true → kd id ≠ 0) id ?_ ?_ ?_ ?_ ?_ ?_ ?_ ?_ ?_ ?_ ?_ ?_ ?_ ?_ ?_ ?_ ?_ ?_ ?_ ?_ ?_ ?_ ?_ ?_ ?_ ?_ ?_ ?none
  case none =>
    intro n1 n2 n3 n8 n9 n11 n17 n18 n19 n21 n22 n23 n24 n25 n26 n28 n31 n33 n34 n35 n36 n37 n38 n39 n40 n41 n42 h
    unfold mst at h
    rw [plc_none id n1 n2 n3 n8 n9 n11 n17 n18 n19 n21 n22 n23 n24 n25 n26 n28 n31 n33 n34 n35 n36 n37 n38 n39 n40 n41 n42] at h
    simp at h
  all_goals
    intro _
    decide
theorem tk_toNat {place id n : Int} {s t : ByteArray} {b : Bool} (f : Int → Bool) (h : tk place id n s t (f id) = b) : tk place id n s t (f (id.toNat : Int)) = b := by
  subst h
  by_cases hm : mst id place = true
  · have := id_range id place hm
    rw [show (id.toNat : Int) = id from by omega]
  · have hm' : mst id place = false := by simpa using hm
    unfold tk
    rw [hm']; rfl
theorem tk_mst {place id n : Int} {s t : ByteArray} {sn : Bool} (h : tk place id n s t sn = true) : mst id place = true ∧ fit (id, n, s, t) = true := by
  unfold tk at h
  rw [Bool.and_eq_true, Bool.and_eq_true] at h
  exact h.1
set_option maxHeartbeats 4000000 in
theorem tell_core (b off cap : Nat) (l : List Pr) (len : Nat) (place : Int) (w : World) (hlen : l.length = len) (h200 : len ≤ 200) (hsm : Small l) (hl : PrAt w b off l) :
    Calls Tryz.prog 177 #[.slice (some ⟨b, off, none⟩) len cap, .int .i64 place] w (TellPost place l w) := by
  have HL := hide hl
  have HLEN := hide hlen
  have HSM := hide hsm
  clear hl hlen hsm
  go_enter Tryz.func177, Tryz.ntmps177
  iterate 19 go_step
  refine wpList_value rfl (row_build _ _ _ _ _ _ place rfl _) ?_
  simp only [Act.put, List.setIfInBounds_toArray, List.set_cons_zero, List.set_cons_succ]
  refine wpList_value rfl (row_alloc _ _ _ _ _ _) ?_
  simp only [Act.put, List.setIfInBounds_toArray, List.set_cons_zero, List.set_cons_succ]
  refine wpList_skip rfl (row_store _ _ _ _ _ _ _ place _ rfl rfl) ?_
  simp only [Act.put]
  go_wp2
  have hR0 : Hid (RowAt (w.alloc (.cells (rowA place) 235)) w.heap.size place (fun _ => false)) := rowAt_new w place
  go_loopw [4, 5, 16] (fun b0 sz iv wr => ∃ (bv : Value) (k S : Nat), b0 = bv ∧ k ≤ len ∧ iv = .int .i64 k ∧ sz = .int .i64 S ∧ S ≤ k * 131078 ∧ Hid (S = (body (l.take k)).length) ∧ Hid (okTo place l k) ∧ Hid (RowAt wr w.heap.size place (fun j => seen l k j)) ∧ Hid (wr.ownsRow (w.heap.size + 1) 5 1 bv (body (l.take (min k 32))).length ((body (l.take (min k 32))).map (Value.int .u8))) ∧ Hid (∀ j, 0 ≤ (body (l.take (min k 32))).getD j 0 ∧ (body (l.take (min k 32))).getD j 0 ≤ 255) ∧ Below w.heap.size w wr) (fun _ _ iv _ => len - (intOf iv).toNat)
  case atStart =>
    refine ⟨_, 0, 0, rfl, Nat.zero_le _, rfl, rfl, by omega, by simp [body]; trivial, okTo_zero _ _, (unhide hR0).congr (fun j _ => (seen_zero _ _).symm), ?_, ?_, ?_⟩
    · show World.ownsRow _ _ _ _ _ _ _
      simpa [body] using World.ownsRow_nil _ _ _ _
    · intro j; simp [body]
    · exact (Below.refl _ _).alloc (Nat.le_refl _) _
  case round =>
    obtain ⟨_, k, S, rfl, hk, rfl, rfl, hSk, HS, HOT, HROW, HOWN, HRG, hbel⟩ := hrel
    clear hR0
    have hsz := hbel.size
    have hRl := (unhide HROW).lt
    by_cases hlt : k < len
    · obtain ⟨id, n, s, t, hp⟩ : ∃ id n s t, at0 l k = (id, n, s, t) := ⟨_, _, _, _, rfl⟩
      obtain ⟨h0, h1, h2, h3⟩ := ((unhide HL).below hbel) k (by rw [unhide HLEN]; exact hlt)
      have hsm := (unhide HSM) k (by rw [unhide HLEN]; exact hlt)
      have hot := hide (okAt_tk place l k)
      rw [hp] at h0 h1 h2 h3 hsm hot
      simp only at h0 h1 h2 h3 hsm
      have HP := hide hp
      have HBEL := hide hbel
      have HSMK := hide hsm
      have HLTk : Hid (k < l.length) := by show _ < _; rw [unhide HLEN]; exact hlt
      clear hp hbel hsm
      have hbl := cell_lt h0
      cases htk : tk place id n s t (seen l k id)
      · have HC : Hid (chkP place l = 1) := chkP_bad place l k (unhide HLTk) ((unhide hot).trans (by simp only [htk, Bool.false_and]))
        have HTK := hide (tk_toNat (seen l k) htk)
        clear htk hot
        go_wp2_with fail
        refine (take_bad w.heap.size place id n s t (fun j => seen l k j) _ ((unhide HROW).below ((Below.refl _ _).alloc (Nat.le_refl _) _)) (unhide HTK)).mono ?_
        rintro e w2 ⟨E, rfl, hE, hb2⟩
        go_wp2
        go_ret3
        exact .inr ⟨unhide HC, _, rfl, hE, ((unhide HBEL).alloc hsz _).trans (hb2.mono (by simp; omega))⟩
      · obtain ⟨hmst, hfit⟩ := tk_mst htk
        obtain ⟨hi1, hi2⟩ := id_range id place hmst
        obtain ⟨q, rfl⟩ : ∃ q : Nat, id = q := ⟨id.toNat, by omega⟩
        have hkd := hide (kd_of_mst _ _ hmst)
        have hxt : Hid (okAt place l k = txo ((q : Int), n, s, t)) := (unhide hot).trans (by rw [htk, Bool.true_and])
        have HTK := hide htk
        have HFT := hide hfit
        have HG : Hid (∀ j : Nat, j ≤ 42 → (seen l k (j : Int) || decide (q = j)) = seen l (k + 1) (j : Int)) := fun j _ => by
          rw [seen_succ l k (unhide HLTk), unhide HP, show decide (((q : Int), n, s, t).1 = (j : Int)) = decide (q = j) from by rw [decide_eq_decide]; constructor <;> intro h <;> omega]
        clear htk hot hmst hfit
        go_wp2_with fail
        refine (take_use w.heap.size q place n s t (fun j => seen l k j) (fun j => seen l (k + 1) j) _ (by omega) ((unhide HROW).below ((Below.refl _ _).alloc (Nat.le_refl _) _)) (unhide HTK) (unhide HG) w.heap.size (Nat.le_refl _)).mono ?_
        rintro e w2 ⟨rfl, HROW2, hb2, HOWT, HCT⟩
        have d0 : w2.cell? ⟨wr.heap.size, 0, none⟩ = some (.int .i64 (q : Int)) := ((unhide HCT) wr.heap.size 0 (by omega) (by simp)).trans (by simp)
        have d1 : w2.cell? ⟨wr.heap.size, 1, none⟩ = some (.int .i64 n) := ((unhide HCT) wr.heap.size 1 (by omega) (by simp)).trans (by simp)
        have d2 : w2.cell? ⟨wr.heap.size, 2, none⟩ = some (.string s) := ((unhide HCT) wr.heap.size 2 (by omega) (by simp)).trans (by simp)
        have d3 : w2.cell? ⟨wr.heap.size, 3, none⟩ = some (.string t) := ((unhide HCT) wr.heap.size 3 (by omega) (by simp)).trans (by simp)
        have HOWN2 : Hid (w2.ownsRow (w.heap.size + 1) 5 1 u4 (body (l.take (min k 32))).length ((body (l.take (min k 32))).map (Value.int .u8))) := (unhide HOWT) _ _ _ _ _ _ (by omega) ((unhide HOWN).alloc _)
        have HB2 : Hid (Below w.heap.size w w2) := ((unhide HBEL).alloc hsz _).trans hb2
        have hs2 := (unhide HB2).size
        clear hb2 HOWT HCT HOWN HBEL HROW HG HTK h0 h1 h2 h3
        cases htx : txo ((q : Int), n, s, t)
        · have HC : Hid (chkP place l = 1) := chkP_bad place l k (unhide HLTk) ((unhide hxt).trans htx)
          have HTX := hide htx
          clear htx hxt
          go_wp2_with fail
          refine (one_bad q n s t _ (by omega) (unhide HSMK).1 (unhide HSMK).2 (unhide hkd) (unhide HTX)).mono ?_
          rintro e w3 ⟨t3, x3, m3, rfl, hin3, hb3⟩
          have HB3 : Hid (Below w.heap.size w w3) := (unhide HB2).trans (hb3.mono hs2)
          clear hb3
          go_wp2_with fail
          refine (broken_use _ m3 _ (unhide hin3)).mono ?_
          rintro e w4 ⟨E, rfl, hE, hb4⟩
          go_wp2
          go_ret3
          exact .inr ⟨unhide HC, _, rfl, hE, (unhide HB3).trans (hb4.mono (unhide HB3).size)⟩
        · have HOK : Hid (okAt place l k = true) := (unhide hxt).trans htx
          have HM : Hid (may ((q : Int), n, s, t) = true) := by show may _ = true; unfold may; rw [unhide HFT, htx]; rfl
          have hpl := pb_le _ (unhide HM)
          have HPB : Hid (body (l.take (k + 1)) = body (l.take k) ++ pb ((q : Int), n, s, t)) := by show _ = _; rw [body_take l k (unhide HLTk), unhide HP]
          have HV := hide (fun W => one_ok q n s t W (by omega) (unhide HM))
          generalize pb ((q : Int), n, s, t) = L at HV hpl HPB
          clear htx hxt HM HFT hkd HSMK
          go_wp2_with fail
          refine ((unhide HV) _).mono ?_
          rintro e w3 ⟨v3, rfl, hy3, hb3⟩
          have HOWN3 : Hid (w3.ownsRow (w.heap.size + 1) 5 1 u4 (body (l.take (min k 32))).length ((body (l.take (min k 32))).map (Value.int .u8))) := owns_below (unhide HOWN2) hb3
          have HROW3 : Hid (RowAt w3 w.heap.size place (fun j => seen l (k + 1) j)) := (unhide HROW2).below hb3
          have HB3 : Hid (Below w.heap.size w w3) := (unhide HB2).trans (hb3.mono hs2)
          have hs3 : w.heap.size + 1 ≤ w3.heap.size := by have := (unhide HROW3).lt; omega
          clear hb3 HOWN2 HROW2 HB2 d0 d1 d2 d3 HV
          obtain ⟨ao, vc, rfl, hv1, hv2⟩ := (unhide hy3).form
          unfold maxLen at hv2
          generalize hN : L.length = N at hpl hv1 hy3
          have HN := hide hN
          clear hN
          have HS' : Hid (S + N = (body (l.take (k + 1))).length) := by show _ = _; rw [unhide HPB, List.length_append, unhide HN, unhide HS]
          by_cases h32 : k < 32
          · have hle := body_le l place k (Nat.le_of_lt (unhide HLTk)) (unhide HOT)
            have HM1 : Hid (min k 32 = k) := Nat.min_eq_left (by omega)
            have HM2 : Hid (min (k + 1) 32 = k + 1) := Nat.min_eq_left (by omega)
            rw [unhide HM1] at HOWN3 HRG
            rw [← unhide HS] at hle
            have HSL : Hid ((body (l.take k)).length = S) := (unhide HS).symm
            rw [unhide HSL] at HOWN3
            have HYN : Hid (Byt w3 (.slice ao N vc) L) := hy3
            go_wp2_with (first
              | (at_builtin; refine wpList_append_byt _ rfl _ _ rfl (w.heap.size + 1) _ S (body (l.take k)) rfl (unhide HOWN3) (.slice ao N vc) L rfl (unhide HYN) (by have := unhide HN; omega) hs3 ?_)
              | go_in)
            intro v4 w4 hown4 hgrow4
            have HB4 : Hid (Below w.heap.size w w4) := (unhide HB3).grown hgrow4 (unhide HB3).size (fun g hg => by have := ((unhide HOWN3).lt g hg).1; omega)
            have HROW4 : Hid (RowAt w4 w.heap.size place (fun j => seen l (k + 1) j)) := row_grown (unhide HROW3) hgrow4 (fun g hg => by have := ((unhide HOWN3).lt g hg).1; omega)
            have HOWN4 : Hid (w4.ownsRow (w.heap.size + 1) 5 1 v4 (body (l.take (min (k + 1) 32))).length ((body (l.take (min (k + 1) 32))).map (Value.int .u8))) := by
              show World.ownsRow _ _ _ _ _ _ _
              rw [unhide HM2, unhide HPB, List.map_append, List.length_append, unhide HSL]
              exact hown4
            have HRG4 : Hid (∀ j, 0 ≤ (body (l.take (min (k + 1) 32))).getD j 0 ∧ (body (l.take (min (k + 1) 32))).getD j 0 ≤ 255) := by
              show ∀ j, _
              rw [unhide HM2, unhide HPB]
              exact range_app (unhide HRG) (unhide HYN).range
            clear hown4 hgrow4
            go_wp2
            go_roundw
            case rel => exact ⟨_, k + 1, S + N, rfl, by omega, by go_num, by go_num, by omega, HS', okTo_succ (unhide HOT) (unhide HOK), HROW4, HOWN4, HRG4, unhide HB4⟩
            case measure => simp [intOf]; omega
          · have HM1 : Hid (min k 32 = min (k + 1) 32) := by show _ = _; omega
            rw [unhide HM1] at HOWN3 HRG
            go_wp2
            go_roundw
            case rel => exact ⟨_, k + 1, S + N, rfl, by omega, by go_num, by go_num, by omega, HS', okTo_succ (unhide HOT) (unhide HOK), HROW3, HOWN3, HRG, unhide HB3⟩
            case measure => simp [intOf]; omega
    · obtain rfl : k = len := by omega
      have HY : Hid (Byt wr u4 (body (l.take 32))) := by
        show Byt _ _ _
        rw [take_min l k (unhide HLEN)]
        exact byt_of_owns (unhide HOWN) (unhide HRG)
      have HS' : Hid ((S : Int) = ((body l).length : Int)) := by
        show _ = _
        rw [unhide HS, List.take_of_length_le (Nat.le_of_eq (unhide HLEN))]
      go_wp2
      go_ret3
      exact .inl ⟨by rw [unhide HLEN]; exact unhide HOT, _, by rw [← unhide HS']; rfl, HY, hbel⟩
end Go.Proofs.YtoocdfgjkeheaaaGreatDoor
/- Proved here: one property with which bytes begin, and all of which bytes are made, as plain functions; prop.getOne tells the first. Helpers. -/
namespace Go.Proofs.YtoocdfgjkeheaaaGreatDoor
open Go.RowKit
set_option maxRecDepth 100000

/-- what a property of a kind has, read off bytes: whether it is there, its number, its texts, how many bytes -/
def gval (k : Int) (l : List Int) : Bool × Int × ByteArray × ByteArray × Nat :=
  if k = 1 ∨ k = 2 ∨ k = 4 then (decide (k ≤ l.length), be k l, es, es, k.toNat)
  else if k = 5 then (decide ((V.vget l).2.2 = 0), (V.vget l).1, es, es, (V.vget l).2.1.toNat)
  else if k = 6 then (decide ((gt l).2.2 = 0), 0, (gt l).1, es, (gt l).2.1.toNat)
  else if k = 7 then (decide ((gbn l).2.2 = 0), 0, (gbn l).1, es, (gbn l).2.1.toNat)
  else if k = 8 then (decide ((gt l).2.2 = 0) && decide ((gt (l.drop (gt l).2.1.toNat)).2.2 = 0), 0, (gt l).1, (gt (l.drop (gt l).2.1.toNat)).1, (gt l).2.1.toNat + (gt (l.drop (gt l).2.1.toNat)).2.1.toNat)
  else (false, 0, es, es, 0)
def gid (l : List Int) : Int := (V.vget l).1
def ghd (l : List Int) : Nat := (V.vget l).2.1.toNat
def grs (l : List Int) : Bool × Int × ByteArray × ByteArray × Nat := gval (kd (gid l)) (l.drop (ghd l))
def gok (l : List Int) : Bool := decide ((V.vget l).2.2 = 0) && (grs l).1
def gpr (l : List Int) : Pr := (gid l, (grs l).2.1, (grs l).2.2.1, (grs l).2.2.2.1)
def gsz (l : List Int) : Nat := ghd l + (grs l).2.2.2.2
/-- the properties of which bytes are made -/
def parse (l : List Int) : Option (List Pr) :=
  if _h : l = [] then some [] else if gok l = true then (parse (l.drop (max 1 (gsz l)))).map (gpr l :: ·) else none
termination_by l.length
decreasing_by
  rw [List.length_drop]
  have := List.length_pos_iff.2 _h
  omega
def Rng (l : List Int) : Prop := ∀ j, 0 ≤ l.getD j 0 ∧ l.getD j 0 ≤ 255
theorem Rng.drop {l : List Int} (h : Rng l) (k : Nat) : Rng (l.drop k) := fun j => by
  rw [List.getD_eq_getElem?_getD, List.getElem?_drop, ← List.getD_eq_getElem?_getD]; exact h _
theorem vget_is (l : List Int) (hr : Rng l) (h : (V.vget l).2.2 = 0) : V.vget l = (gid l, (ghd l : Int), 0) ∧ 1 ≤ ghd l ∧ ghd l ≤ l.length ∧ 0 ≤ gid l ∧ gid l ≤ 268435455 ∧ V.put (gid l) = l.take (ghd l) := by
  obtain ⟨n, k, e, he⟩ : ∃ n k e, V.vget l = (n, k, e) := ⟨_, _, _, rfl⟩
  rw [he] at h
  simp only at h
  subst h
  obtain ⟨h0, h1, K, rfl, h2, h3, h4⟩ := V.vget_ok l hr n k he
  have e1 : gid l = n := by unfold gid; rw [he]
  have e2 : ghd l = K := by unfold ghd; rw [he]; simp
  rw [e1, e2]
  exact ⟨he, h2, h3, h0, h1, h4⟩
theorem gt_is (l : List Int) (h : (gt l).2.2 = 0) : gt l = ((gt l).1, (((gt l).2.1.toNat : Nat) : Int), 0) ∧ 2 ≤ (gt l).2.1.toNat ∧ (gt l).2.1.toNat ≤ l.length ∧ utf (sb (gt l).1) = true ∧ (gt l).1 = gbs l := by
  rcases gt_cases l with ⟨s, K, hf, hu, rfl, rfl, hg⟩ | ⟨m, hm, hg⟩
  · rw [hg]
    unfold full at hf
    rw [Bool.and_eq_true, decide_eq_true_eq, decide_eq_true_eq] at hf
    refine ⟨by rw [Int.toNat_natCast], ?_, ?_, hu, rfl⟩
    · show 2 ≤ ((2 + nb l : Nat) : Int).toNat
      omega
    · show ((2 + nb l : Nat) : Int).toNat ≤ _
      omega
  · rw [hg] at h
    exact absurd h hm
theorem gbn_is (l : List Int) (h : (gbn l).2.2 = 0) : gbn l = ((gbn l).1, (((gbn l).2.1.toNat : Nat) : Int), 0) ∧ 2 ≤ (gbn l).2.1.toNat ∧ (gbn l).2.1.toNat ≤ l.length ∧ (gbn l).1 = gbs l := by
  unfold gbn at *
  by_cases hf : full l = true
  · rw [if_pos hf] at h ⊢
    unfold full at hf
    rw [Bool.and_eq_true, decide_eq_true_eq, decide_eq_true_eq] at hf
    refine ⟨by rw [Int.toNat_natCast], ?_, ?_, rfl⟩
    · show 2 ≤ ((2 + nb l : Nat) : Int).toNat
      omega
    · show ((2 + nb l : Nat) : Int).toNat ≤ _
      omega
  · rw [if_neg hf] at h
    simp at h
theorem gval_le (k : Int) (l : List Int) (hr : Rng l) (h : (gval k l).1 = true) : (gval k l).2.2.2.2 ≤ l.length := by
  unfold gval at h ⊢
  by_cases k1 : k = 1 ∨ k = 2 ∨ k = 4
  · rw [if_pos k1] at h ⊢
    simp only [decide_eq_true_eq] at h ⊢
    omega
  rw [if_neg k1] at h ⊢
  by_cases k5 : k = 5
  · rw [if_pos k5] at h ⊢
    simp only [decide_eq_true_eq] at h ⊢
    exact (vget_is l hr h).2.2.1
  rw [if_neg k5] at h ⊢
  by_cases k6 : k = 6
  · rw [if_pos k6] at h ⊢
    simp only [decide_eq_true_eq] at h ⊢
    exact (gt_is l h).2.2.1
  rw [if_neg k6] at h ⊢
  by_cases k7 : k = 7
  · rw [if_pos k7] at h ⊢
    simp only [decide_eq_true_eq] at h ⊢
    exact (gbn_is l h).2.2.1
  rw [if_neg k7] at h ⊢
  by_cases k8 : k = 8
  · rw [if_pos k8] at h ⊢
    simp only [Bool.and_eq_true, decide_eq_true_eq] at h ⊢
    have a := (gt_is l h.1).2.2.1
    have b := (gt_is _ h.2).2.2.1
    rw [List.length_drop] at b
    omega
  rw [if_neg k8] at h
  simp at h
theorem gok_le (l : List Int) (hr : Rng l) (h : gok l = true) : 1 ≤ gsz l ∧ gsz l ≤ l.length ∧ 0 ≤ gid l ∧ gid l ≤ 268435455 := by
  unfold gok at h
  rw [Bool.and_eq_true, decide_eq_true_eq] at h
  obtain ⟨_, a, b, c, d, _⟩ := vget_is l hr h.1
  have e := gval_le _ _ (hr.drop (ghd l)) h.2
  rw [List.length_drop] at e
  unfold gsz grs
  omega
theorem parse_nil : parse [] = some [] := by rw [parse, dif_pos rfl]
theorem parse_no (l : List Int) (h : l ≠ []) (hg : gok l = false) : parse l = none := by rw [parse, dif_neg h, if_neg (by rw [hg]; decide)]
theorem parse_yes (l : List Int) (h : l ≠ []) (hr : Rng l) (hg : gok l = true) : parse l = (parse (l.drop (gsz l))).map (gpr l :: ·) := by
  rw [parse, dif_neg h, if_pos hg, Nat.max_eq_right (gok_le l hr hg).1]
theorem getOne_good (v : Value) (l : List Int) (w : World) (h : Byt w v l) (hg : gok l = true) : Calls Tryz.prog 204 #[v] w (GoOk (gpr l) (gsz l) w) := by
  have hr := h.range
  have hle := gok_le l hr hg
  unfold gok at hg
  rw [Bool.and_eq_true, decide_eq_true_eq] at hg
  obtain ⟨hv, a, b, c, d, _⟩ := vget_is l hr hg.1
  have hg2 := hg.2
  have hl := gval_le _ _ (Rng.drop hr (ghd l)) hg2
  rw [List.length_drop] at hl
  unfold gpr gsz
  refine gone_ok v l w h (gid l) (ghd l) hv ⟨a, b⟩ (frm (gid l)) (wid (gid l)) (lst (gid l)) (mx (gid l)) rfl _ _ _ _ (by unfold grs; omega) ?_
  intro vb W hb
  have hfrm : frm (gid l) = (if kd (gid l) = 1 ∨ kd (gid l) = 2 ∨ kd (gid l) = 4 then 1 else if kd (gid l) = 5 then 2 else if kd (gid l) = 6 then 3 else if kd (gid l) = 7 then 4 else if kd (gid l) = 8 then 5 else 0) := rfl
  have hwid : wid (gid l) = (if kd (gid l) = 1 ∨ kd (gid l) = 2 ∨ kd (gid l) = 4 then kd (gid l) else 0) := rfl
  have hr' := Rng.drop hr (ghd l)
  unfold grs at hg2 ⊢
  generalize kd (gid l) = k at hg2 hfrm hwid ⊢
  generalize l.drop (ghd l) = m at hg2 hb hr' ⊢
  rw [hfrm, hwid]
  clear hfrm hwid
  unfold gval at hg2 ⊢
  by_cases k1 : k = 1 ∨ k = 2 ∨ k = 4
  · rw [if_pos k1] at hg2 ⊢
    rw [if_pos k1, if_pos k1]
    simp only [decide_eq_true_eq] at hg2 ⊢
    have := gval_num vb m W hb k (lst (gid l)) (mx (gid l)) k1 hg2
    rw [show ((k.toNat : Nat) : Int) = k from by omega]
    exact this
  rw [if_neg k1] at hg2 ⊢
  rw [if_neg k1, if_neg k1]
  by_cases k5 : k = 5
  · rw [if_pos k5] at hg2 ⊢
    rw [if_pos k5]
    simp only [decide_eq_true_eq] at hg2 ⊢
    obtain ⟨hv', _⟩ := vget_is m hr' hg2
    exact gval_var vb m W hb _ _ _ _ _ hv'
  rw [if_neg k5] at hg2 ⊢
  rw [if_neg k5]
  by_cases k6 : k = 6
  · rw [if_pos k6] at hg2 ⊢
    rw [if_pos k6]
    simp only [decide_eq_true_eq] at hg2 ⊢
    exact gval_text vb m W hb _ _ _ _ _ (gt_is m hg2).1
  rw [if_neg k6] at hg2 ⊢
  rw [if_neg k6]
  by_cases k7 : k = 7
  · rw [if_pos k7] at hg2 ⊢
    rw [if_pos k7]
    simp only [decide_eq_true_eq] at hg2 ⊢
    exact gval_bin vb m W hb _ _ _ _ _ (gbn_is m hg2).1
  rw [if_neg k7] at hg2 ⊢
  rw [if_neg k7]
  by_cases k8 : k = 8
  · rw [if_pos k8] at hg2 ⊢
    rw [if_pos k8]
    simp only [Bool.and_eq_true, decide_eq_true_eq] at hg2 ⊢
    obtain ⟨e1, e2, e3, _⟩ := gt_is m hg2.1
    obtain ⟨f1, f2, f3, _⟩ := gt_is _ hg2.2
    rw [List.length_drop] at f3
    exact gval_pair vb m W hb _ _ _ _ _ _ _ e1 f1 ⟨e2, e3⟩ (by omega)
  rw [if_neg k8] at hg2
  simp at hg2
theorem getOne_fail (v : Value) (l : List Int) (w : World) (h : Byt w v l) (hg : gok l = false) : Calls Tryz.prog 204 #[v] w (GvBad w) := by
  have hr := h.range
  by_cases hv0 : (V.vget l).2.2 = 0
  · obtain ⟨hv, a, b, c, d, _⟩ := vget_is l hr hv0
    have hg2 : (grs l).1 = false := by
      unfold gok at hg
      rw [hv0] at hg
      simpa using hg
    refine gone_bad2 v l w h (gid l) (ghd l) hv ⟨a, b⟩ (frm (gid l)) (wid (gid l)) (lst (gid l)) (mx (gid l)) rfl ?_
    intro vb W hb
    have hfrm : frm (gid l) = (if kd (gid l) = 1 ∨ kd (gid l) = 2 ∨ kd (gid l) = 4 then 1 else if kd (gid l) = 5 then 2 else if kd (gid l) = 6 then 3 else if kd (gid l) = 7 then 4 else if kd (gid l) = 8 then 5 else 0) := rfl
    have hwid : wid (gid l) = (if kd (gid l) = 1 ∨ kd (gid l) = 2 ∨ kd (gid l) = 4 then kd (gid l) else 0) := rfl
    unfold grs at hg2
    generalize kd (gid l) = k at hg2 hfrm hwid ⊢
    generalize l.drop (ghd l) = m at hg2 hb
    rw [hfrm, hwid]
    clear hfrm hwid
    unfold gval at hg2
    by_cases k1 : k = 1 ∨ k = 2 ∨ k = 4
    · rw [if_pos k1] at hg2
      rw [if_pos k1, if_pos k1]
      simp only [decide_eq_false_iff_not] at hg2
      exact gval_num_bad vb m W hb k _ _ (by omega)
    rw [if_neg k1] at hg2
    rw [if_neg k1, if_neg k1]
    by_cases k5 : k = 5
    · rw [if_pos k5] at hg2
      rw [if_pos k5]
      simp only [decide_eq_false_iff_not] at hg2
      exact gval_var_bad vb m W hb _ _ _ _ rfl hg2
    rw [if_neg k5] at hg2
    rw [if_neg k5]
    by_cases k6 : k = 6
    · rw [if_pos k6] at hg2
      rw [if_pos k6]
      simp only [decide_eq_false_iff_not] at hg2
      exact gval_text_bad vb m W hb _ _ _ _ rfl hg2
    rw [if_neg k6] at hg2
    rw [if_neg k6]
    by_cases k7 : k = 7
    · rw [if_pos k7] at hg2
      rw [if_pos k7]
      simp only [decide_eq_false_iff_not] at hg2
      exact gval_bin_bad vb m W hb _ _ _ _ rfl hg2
    rw [if_neg k7] at hg2
    rw [if_neg k7]
    by_cases k8 : k = 8
    · rw [if_pos k8] at hg2
      rw [if_pos k8]
      by_cases h1 : (gt m).2.2 = 0
      · obtain ⟨e1, e2, e3, _⟩ := gt_is m h1
        have h2 : ¬ (gt (m.drop (gt m).2.1.toNat)).2.2 = 0 := by
          rw [h1] at hg2
          simpa using hg2
        exact gval_pair_bad vb m W hb _ _ _ (fun W' hb' => gpair_bad2 vb m W' hb' _ _ e1 ⟨e2, e3⟩ _ rfl h2)
      · exact gval_pair_bad vb m W hb _ _ _ (fun W' hb' => gpair_bad1 vb m W' hb' _ rfl h1)
    rw [if_neg k8]
    exact gval_none vb m W hb _ _ _
  · exact gone_bad1 v l w h _ rfl hv0
/-- what is read has texts that may be -/
theorem gpr_txo (l : List Int) (hr : Rng l) (h : gok l = true) : txo (gpr l) = true ∧ (gpr l).2.2.1.size ≤ 65535 ∧ (gpr l).2.2.2.size ≤ 65535 := by
  unfold gok at h
  rw [Bool.and_eq_true, decide_eq_true_eq] at h
  have hg2 := h.2
  have hr' := hr.drop (ghd l)
  unfold gpr txo
  simp only
  unfold grs at hg2 ⊢
  generalize kd (gid l) = k at hg2 ⊢
  generalize l.drop (ghd l) = m at hg2 hr' ⊢
  have hes : es.size ≤ 65535 := by decide
  have key : ∀ s : ByteArray, utf (sb s) = true → s.size ≤ 65535 → chk (sb s) = 0 := fun s a b => by
    unfold chk
    rw [if_pos a, if_pos (by rw [sb_length]; exact b)]
  unfold gval at hg2 ⊢
  by_cases k1 : k = 1 ∨ k = 2 ∨ k = 4
  · rw [if_pos k1]
    rw [if_neg (by omega), if_neg (by omega), if_neg (by omega)]
    exact ⟨by simp; omega, hes, hes⟩
  rw [if_neg k1] at hg2 ⊢
  by_cases k5 : k = 5
  · rw [if_pos k5]
    rw [if_neg (by omega), if_neg (by omega), if_neg (by omega)]
    exact ⟨by simp; omega, hes, hes⟩
  rw [if_neg k5] at hg2 ⊢
  by_cases k6 : k = 6
  · rw [if_pos k6] at hg2 ⊢
    simp only [decide_eq_true_eq] at hg2 ⊢
    rw [if_pos k6]
    obtain ⟨_, _, _, hu, hs⟩ := gt_is m hg2
    have hz : (gt m).1.size ≤ 65535 := by rw [hs]; exact gbs_size m hr'
    exact ⟨key _ hu hz, hz, hes⟩
  rw [if_neg k6] at hg2 ⊢
  by_cases k7 : k = 7
  · rw [if_pos k7] at hg2 ⊢
    simp only [decide_eq_true_eq] at hg2 ⊢
    rw [if_neg k6, if_pos k7]
    obtain ⟨_, _, _, hs⟩ := gbn_is m hg2
    have hz : (gbn m).1.size ≤ 65535 := by rw [hs]; exact gbs_size m hr'
    exact ⟨hz, hz, hes⟩
  rw [if_neg k7] at hg2 ⊢
  by_cases k8 : k = 8
  · rw [if_pos k8] at hg2 ⊢
    simp only [Bool.and_eq_true, decide_eq_true_eq] at hg2 ⊢
    rw [if_neg k6, if_neg k7, if_pos k8]
    obtain ⟨_, _, _, hu, hs⟩ := gt_is m hg2.1
    obtain ⟨_, _, _, hu2, hs2⟩ := gt_is _ hg2.2
    have hz : (gt m).1.size ≤ 65535 := by rw [hs]; exact gbs_size m hr'
    have hz2 : (gt (m.drop (gt m).2.1.toNat)).1.size ≤ 65535 := by rw [hs2]; exact gbs_size _ (hr'.drop _)
    exact ⟨⟨key _ hu hz, key _ hu2 hz2⟩, hz, hz2⟩
  rw [if_neg k8] at hg2
  simp at hg2
/-- lists that begin alike -/
theorem at0_app (d e : List Pr) (i : Nat) (h : i < d.length) : at0 (d ++ e) i = at0 d i := by
  unfold at0
  rw [List.getD_eq_getElem?_getD, List.getElem?_append_left h, ← List.getD_eq_getElem?_getD]
theorem at0_mid (d e : List Pr) (p : Pr) : at0 (d ++ p :: e) d.length = p := by
  unfold at0
  simp
def sn (d : List Pr) (id : Int) : Bool := d.any fun q => decide (q.1 = id)
theorem seen_app (d e : List Pr) (i : Nat) (h : i ≤ d.length) (id : Int) : seen (d ++ e) i id = seen d i id := by
  unfold seen
  rw [List.take_append_of_le_length h]
theorem okAt_app (place : Int) (d e : List Pr) (i : Nat) (h : i < d.length) : okAt place (d ++ e) i = okAt place d i := by
  unfold okAt
  rw [at0_app d e i h, seen_app d e i (by omega)]
theorem okAt_mid (place : Int) (d e : List Pr) (p : Pr) : okAt place (d ++ p :: e) d.length = (tk place p.1 p.2.1 p.2.2.1 p.2.2.2 (sn d p.1) && txo p) := by
  rw [okAt_tk, at0_mid, seen_app d _ _ (Nat.le_refl _)]
  unfold seen sn
  rw [List.take_length]
theorem sn_snoc (d : List Pr) (p : Pr) (id : Int) : sn (d ++ [p]) id = (sn d id || decide (p.1 = id)) := by
  unfold sn
  rw [List.any_append]; simp
/-- the number that read tells -/
def rdn (place : Int) (l : List Int) : Int := match parse l with
  | none => 1
  | some q => chkP place q
theorem rdn_none (place : Int) (l : List Int) (h : parse l = none) : rdn place l = 1 := by unfold rdn; rw [h]
theorem rdn_some (place : Int) (l : List Int) (q : List Pr) (h : parse l = some q) : rdn place l = chkP place q := by unfold rdn; rw [h]
theorem rdn_bad (place : Int) (l r : List Int) (d : List Pr) (p : Pr) (h : parse l = (parse r).map ((d ++ [p]) ++ ·)) (hp : okAt place (d ++ [p]) d.length = false) : rdn place l = 1 := by
  cases hr : parse r with
  | none => rw [hr] at h; exact rdn_none place l h
  | some q =>
    rw [hr] at h
    rw [rdn_some place l _ h]
    refine chkP_bad place _ d.length (by simp) ?_
    rw [okAt_app place (d ++ [p]) q d.length (by simp)]
    exact hp
end Go.Proofs.YtoocdfgjkeheaaaGreatDoor
/- Proved here: prop.Check and prop.Put at any properties read from memory, at most 200: the error's number (chkP), and the bytes (pbs). Helper contracts. -/
namespace Go.Proofs.YtoocdfgjkeheaaaGreatDoor
open Go.RowKit
set_option maxRecDepth 100000

/-- the value v reads in the world w as the properties l -/
def Prp (w : World) (v : Value) (l : List Pr) : Prop := ∃ ao cap, v = .slice ao l.length cap ∧ (l = [] ∨ ∃ b off, ao = some ⟨b, off, none⟩ ∧ PrAt w b off l)
theorem Prp.below {w w' : World} {v : Value} {l : List Pr} (h : Prp w v l) (hb : Below w.heap.size w w') : Prp w' v l := by
  obtain ⟨ao, cap, h1, h2⟩ := h
  refine ⟨ao, cap, h1, ?_⟩
  rcases h2 with h2 | ⟨b, off, e, hc⟩
  · exact .inl h2
  · exact .inr ⟨b, off, e, hc.below hb⟩
theorem Prp.form {w : World} {v : Value} {l : List Pr} (h : Prp w v l) : ∃ ao cap, v = .slice ao l.length cap := by
  obtain ⟨ao, cap, h1, _⟩ := h
  exact ⟨ao, cap, h1⟩
theorem tell_nil (ao : Option Addr) (cap : Nat) (place : Int) (w : World) : Calls Tryz.prog 177 #[.slice ao 0 cap, .int .i64 place] w (TellPost place [] w) := by
  go_enter Tryz.func177, Tryz.ntmps177
  iterate 19 go_step
  refine wpList_value rfl (row_build _ _ _ _ _ _ place rfl _) ?_
  simp only [Act.put, List.setIfInBounds_toArray, List.set_cons_zero, List.set_cons_succ]
  refine wpList_value rfl (row_alloc _ _ _ _ _ _) ?_
  simp only [Act.put, List.setIfInBounds_toArray, List.set_cons_zero, List.set_cons_succ]
  refine wpList_skip rfl (row_store _ _ _ _ _ _ _ place _ rfl rfl) ?_
  simp only [Act.put]
  go_wp2
  refine wp_loop_rounds 1 ?_
  rw [rounds_succ]
  go_wp2
  go_ret3
  exact .inl ⟨okTo_zero _ _, _, rfl, ⟨none, 0, rfl, ⟨Nat.le_refl _, by unfold maxLen; omega⟩, fun j => by simp [body], .inl rfl⟩, (Below.refl _ _).alloc (Nat.le_refl _) _⟩
theorem tell_any (v : Value) (l : List Pr) (place : Int) (w : World) (h : Prp w v l) (h200 : l.length ≤ 200) (hsm : Small l) : Calls Tryz.prog 177 #[v, .int .i64 place] w (TellPost place l w) := by
  obtain ⟨ao, cap, rfl, hc⟩ := h
  rcases hc with rfl | ⟨b, off, rfl, hc⟩
  · exact tell_nil ao cap place w
  · exact tell_core b off cap l _ place w rfl h200 hsm hc
/-- Put's bytes: those of properties that may stand, else none -/
def pbz (place : Int) (l : List Pr) : List Int := if chkP place l = 0 then pbs l else []
set_option maxHeartbeats 1000000 in
theorem put_any (v : Value) (l : List Pr) (place : Int) (w : World) (h : Prp w v l) (h200 : l.length ≤ 200) (hsm : Small l) :
    Calls Tryz.prog 145 #[v, .int .i64 place] w fun e w' => ∃ v E, e = .returned (.tuple #[v, E]) ∧ Hid (Byt w' v (pbz place l)) ∧ Hid (ErrP w' E (chkP place l)) ∧ Below w.heap.size w w' := by
  have HT := hide (tell_any v l place w h h200 hsm)
  obtain ⟨ao, cap, hv⟩ := h.form
  subst hv
  clear h hsm
  generalize hn : l.length = len at h200 HT
  have HN := hide hn
  clear hn
  have hbad : ∀ (W : World), chkP place l ≠ 0 → Byt W (.slice none 0 0) (pbz place l) := fun W hc => by
    unfold pbz
    rw [if_neg hc]
    exact ⟨none, 0, rfl, ⟨Nat.le_refl _, by unfold maxLen; omega⟩, fun j => by simp, .inl rfl⟩
  have HBAD := hide hbad
  clear hbad
  go_enter Tryz.func145, Tryz.ntmps145
  go_wp2_with fail
  refine (unhide HT).mono ?_
  rintro e w1 (⟨hok, v1, rfl, hy, hb1⟩ | ⟨hc, E, rfl, hE, hb1⟩)
  · have hle := body_le l place len (by rw [unhide HN]; exact Nat.le_refl _) (by rw [unhide HN] at hok; exact hok)
    rw [List.take_of_length_le (Nat.le_of_eq (unhide HN))] at hle
    have HOK := hide hok
    have HB1 := hide hb1
    clear hb1 hok
    generalize hS : (body l).length = SZ at hle
    have HS := hide hS
    clear hS
    go_wp2_with fail
    refine (vput_use SZ _ (by omega) (by omega)).mono ?_
    rintro e w2 ⟨v2, rfl, hown2, hy2, hb2⟩
    have HB2 : Hid (Below w.heap.size w w2) := (unhide HB1).trans (hb2.mono (unhide HB1).size)
    have HO2 : Hid (w2.ownsRow w.heap.size 5 1 v2 (V.put SZ).length ((V.put SZ).map (Value.int .u8))) := owns_mono (unhide hown2) (unhide HB1).size
    have HY1 : Hid (Byt w2 v1 (body (l.take 32))) := (unhide hy).below hb2
    clear hb2 hown2 hy HB1
    rcases Nat.lt_or_ge 32 len with h32 | h32
    · have HC : Hid (chkP place l = 2) := chkP_lim place l (unhide HOK) (by rw [unhide HN]; exact h32)
      go_wp2_with fail
      refine (few_bad len _ (by omega)).mono ?_
      rintro e w3 ⟨E, rfl, hE, hb3⟩
      go_wp2
      go_ret2
      exact ⟨_, _, rfl, (unhide HBAD) _ (by rw [unhide HC]; omega), by rw [unhide HC]; exact hE, (unhide HB2).trans (hb3.mono (unhide HB2).size)⟩
    · have HC : Hid (chkP place l = 0) := chkP_ok place l (unhide HOK) (by rw [unhide HN]; exact h32)
      have HZ : Hid (pbz place l = V.put SZ ++ body l) := by show pbz _ _ = _; unfold pbz pbs; rw [if_pos (unhide HC), unhide HS]
      have HL := hide (V.put_len SZ)
      have HT32 : Hid (l.take 32 = l) := List.take_of_length_le (by rw [unhide HN]; exact h32)
      rw [unhide HT32] at HY1
      go_wp2_with fail
      refine (few_ok len _ (by omega)).mono ?_
      rintro e w3 ⟨rfl, hw⟩
      obtain rfl := hw.symm
      clear hw
      go_wp2_with (first
        | (at_builtin; refine wpList_append_byt _ rfl _ _ rfl w.heap.size _ (V.put SZ).length (V.put SZ) rfl (unhide HO2) v1 (body l) rfl (unhide HY1) (by have := unhide HL; have := unhide HS; omega) (unhide HB2).size ?_)
        | go_in)
      intro v4 w4 hown4 hgrow4
      have HB4 : Hid (Below w.heap.size w w4) := (unhide HB2).grown hgrow4 (unhide HB2).size (fun g hg => ((unhide HO2).lt g hg).1)
      have HY4 : Hid (Byt w4 v4 (pbz place l)) := by
        show Byt _ _ _
        rw [unhide HZ]
        exact byt_of_owns (by rw [List.map_append]; exact hown4) (range_app (unhide hy2).range (unhide HY1).range)
      clear hown4 hgrow4
      go_wp2
      go_ret2
      exact ⟨_, _, rfl, HY4, by rw [unhide HC]; exact ErrP.nil _, unhide HB4⟩
  · have HC := hide hc
    clear hc
    go_wp2
    go_ret2
    exact ⟨_, _, rfl, (unhide HBAD) _ (by rw [unhide HC]; omega), by rw [unhide HC]; exact hE, hb1⟩
end Go.Proofs.YtoocdfgjkeheaaaGreatDoor
/- Proved here: dovecoteref0.CopyProps copies properties to memory of its own, EqProps tells whether two lists are one. Helper contracts. -/
namespace Go.Proofs.YtoocdfgjkeheaaaGreatDoor
open Go.RowKit
set_option maxRecDepth 100000

/-- a list's cells, four a property -/
def pcs (l : List Pr) : List Value := l.flatMap fun p => [.int .i64 p.1, .int .i64 p.2.1, .string p.2.2.1, .string p.2.2.2]
theorem Tryz.infoProp : (Tryz.prog.info? 120).map (fun i => (i.zero, i.size, i.bytes)) = some (some (.agg #[.int .i64 0, .int .i64 0, .string ⟨#[]⟩, .string ⟨#[]⟩]), 4, 48) := by kernel_rfl
theorem pcs_length (l : List Pr) : (pcs l).length = l.length * 4 := by
  induction l with
  | nil => rfl
  | cons p l ih => unfold pcs at *; rw [List.flatMap_cons, List.length_append, ih]; simp; omega
theorem pcs_get (l : List Pr) : ∀ k, k < l.length → (pcs l)[k * 4]? = some (.int .i64 (at0 l k).1) ∧ (pcs l)[k * 4 + 1]? = some (.int .i64 (at0 l k).2.1) ∧ (pcs l)[k * 4 + 2]? = some (.string (at0 l k).2.2.1) ∧ (pcs l)[k * 4 + 3]? = some (.string (at0 l k).2.2.2) := by
  induction l with
  | nil => intro k hk; simp at hk
  | cons p l ih =>
    intro k hk
    have e : pcs (p :: l) = [.int .i64 p.1, .int .i64 p.2.1, .string p.2.2.1, .string p.2.2.2] ++ pcs l := rfl
    rw [e]
    rcases k with _ | k
    · exact ⟨rfl, rfl, rfl, rfl⟩
    · have h := ih k (by simpa using hk)
      have ea : at0 (p :: l) (k + 1) = at0 l k := by unfold at0; rw [List.getD_cons_succ]
      rw [ea]
      refine ⟨?_, ?_, ?_, ?_⟩
      · rw [List.getElem?_append_right (by simp; omega)]; rw [show (k + 1) * 4 - [Value.int .i64 p.1, .int .i64 p.2.1, .string p.2.2.1, .string p.2.2.2].length = k * 4 from by simp; omega]; exact h.1
      · rw [List.getElem?_append_right (by simp; omega)]; rw [show (k + 1) * 4 + 1 - [Value.int .i64 p.1, .int .i64 p.2.1, .string p.2.2.1, .string p.2.2.2].length = k * 4 + 1 from by simp; omega]; exact h.2.1
      · rw [List.getElem?_append_right (by simp; omega)]; rw [show (k + 1) * 4 + 2 - [Value.int .i64 p.1, .int .i64 p.2.1, .string p.2.2.1, .string p.2.2.2].length = k * 4 + 2 from by simp; omega]; exact h.2.2.1
      · rw [List.getElem?_append_right (by simp; omega)]; rw [show (k + 1) * 4 + 3 - [Value.int .i64 p.1, .int .i64 p.2.1, .string p.2.2.1, .string p.2.2.2].length = k * 4 + 3 from by simp; omega]; exact h.2.2.2
theorem prp_of_owns {w : World} {B : Nat} {e : TypeId} {v : Value} {l : List Pr} (h : w.ownsRow B e 4 v l.length (pcs l)) : Prp w v l := by
  rcases h.2 with ⟨rfl, h1⟩ | ⟨g, cap, cur, rfl, hB, hg, rest⟩
  · have : l = [] := List.length_eq_zero_iff.1 h1
    subst this
    exact ⟨none, 0, rfl, .inl rfl⟩
  · refine ⟨_, cap, rfl, .inr ⟨g, 0, rfl, fun k hk => ?_⟩⟩
    obtain ⟨h0, h1, h2, h3⟩ := pcs_get l k hk
    refine ⟨?_, ?_, ?_, ?_⟩
    · rw [Nat.zero_add, h.cellAt (k * 4) (by omega)]; exact h0
    · rw [Nat.zero_add, h.cellAt (k * 4 + 1) (by omega)]; exact h1
    · rw [Nat.zero_add, h.cellAt (k * 4 + 2) (by omega)]; exact h2
    · rw [Nat.zero_add, h.cellAt (k * 4 + 3) (by omega)]; exact h3
theorem pcs_snoc (l : List Pr) (k : Nat) (h : k < l.length) : pcs (l.take (k + 1)) = pcs (l.take k) ++ [.int .i64 (at0 l k).1, .int .i64 (at0 l k).2.1, .string (at0 l k).2.2.1, .string (at0 l k).2.2.2] := by
  rw [take_snoc0 l k h]
  unfold pcs
  rw [List.flatMap_append]
  rfl
theorem four_cell (w : World) (a b c d : Value) (t : TypeId) : ∀ j u, [a, b, c, d][j]? = some u → (w.alloc (.cells #[a, b, c, d] t)).cell? ((⟨w.heap.size, 0, none⟩ : Addr).add j) = some u := by
  intro j u hj
  match j, hj with
  | 0, hj => simp at hj; subst hj; simp [Addr.add]
  | 1, hj => simp at hj; subst hj; simp [Addr.add]
  | 2, hj => simp at hj; subst hj; simp [Addr.add]
  | 3, hj => simp at hj; subst hj; simp [Addr.add]
theorem four_one (a b : Int) (c d : ByteArray) : ∀ u ∈ [Value.int .i64 a, .int .i64 b, .string c, .string d], u.oneCell' = true := by
  intro u hu; simp at hu; rcases hu with rfl | rfl | rfl | rfl <;> rfl
set_option maxHeartbeats 4000000 in
theorem copyp_core (b off cap : Nat) (l : List Pr) (len : Nat) (w : World) (hlen : l.length = len) (hmx : len ≤ 1000000) (hl : PrAt w b off l) :
    Calls Tryz.prog 49 #[.slice (some ⟨b, off, none⟩) len cap] w fun e w' => ∃ v, e = .returned v ∧ Hid (w'.ownsRow w.heap.size 120 4 v len (pcs l)) ∧ Below w.heap.size w w' := by
  obtain ⟨i0, hi, hz0, hz1, hz2⟩ := info_parts Tryz.infoProp
  have HL := hide hl
  have HLEN := hide hlen
  clear hl hlen
  go_enter Tryz.func49, Tryz.ntmps49
  go_wp2
  go_loopw [3, 4] (fun v i wr => ∃ k : Nat, k ≤ len ∧ i = .int .i64 k ∧ Hid (wr.ownsRow w.heap.size 120 4 v k (pcs (l.take k))) ∧ Below w.heap.size w wr) (fun _ i _ => len - (intOf i).toNat)
  case atStart => exact ⟨0, Nat.zero_le _, rfl, World.ownsRow_nil _ _ _ _, Below.refl _ _⟩
  case round =>
    obtain ⟨k, hk, rfl, HOWN, hbel⟩ := hrel
    by_cases hlt : k < len
    · have HLTk : Hid (k < l.length) := by show _ < _; rw [unhide HLEN]; exact hlt
      obtain ⟨h0, h1, h2, h3⟩ := ((unhide HL).below hbel) k (unhide HLTk)
      have HPS := hide (pcs_snoc l k (unhide HLTk))
      obtain ⟨id, n, s, t, hp⟩ : ∃ id n s t, at0 l k = (id, n, s, t) := ⟨_, _, _, _, rfl⟩
      rw [hp] at h0 h1 h2 h3 HPS
      simp only at h0 h1 h2 h3
      have HBEL := hide hbel
      have hsz := hbel.size
      clear hp hbel
      go_wp2_with (first
        | (at_builtin; refine wpList_append_own _ rfl _ _ 24 rfl w.heap.size 120 i0 _ 4 48 Tryz.underlying24 hi hz0 hz1 hz2 rfl (by decide) _ _ _ rfl ((unhide HOWN).alloc _) ⟨wr.heap.size, 0, none⟩ 1 1 [.int .i64 id, .int .i64 n, .string s, .string t] rfl rfl (four_cell _ _ _ _ _ _) (four_one _ _ _ _) (by unfold maxLen; omega) (by omega) (by simp; omega) ?_)
        | go_in)
      intro v' w1 hown' hgrow _
      have HB1 : Hid (Below w.heap.size w w1) := ((unhide HBEL).alloc hsz _).grown hgrow (by simp; omega) (fun k hk => ((unhide HOWN).lt k hk).1)
      have HO1 : Hid (w1.ownsRow w.heap.size 120 4 v' (k + 1) (pcs (l.take (k + 1)))) := by show World.ownsRow _ _ _ _ _ _ _; rw [unhide HPS]; exact hown'
      clear hgrow hown'
      go_wp2
      go_roundw
      case rel => exact ⟨k + 1, by omega, by go_num, HO1, unhide HB1⟩
      case measure => simp [intOf]; omega
    · obtain rfl : k = len := by omega
      have HO1 : Hid (wr.ownsRow w.heap.size 120 4 u3 k (pcs l)) := by
        show World.ownsRow _ _ _ _ _ _ _
        have := unhide HOWN
        rw [List.take_of_length_le (Nat.le_of_eq (unhide HLEN))] at this
        exact this
      go_wp2
      go_ret
      exact ⟨_, rfl, HO1, hbel⟩
theorem copyp_nil (ao : Option Addr) (cap : Nat) (w : World) : Calls Tryz.prog 49 #[.slice ao 0 cap] w fun e w' => e = .returned (.slice none 0 0) ∧ w' = w := by
  go_enter Tryz.func49, Tryz.ntmps49
  go_wp2
  refine wp_loop_rounds 1 ?_
  rw [rounds_succ]
  go_wp2
  go_ret
  exact ⟨rfl, rfl⟩
theorem copyp_any (v : Value) (l : List Pr) (w : World) (h : Prp w v l) (hmx : l.length ≤ 1000000) : Calls Tryz.prog 49 #[v] w fun e w' => ∃ v, e = .returned v ∧ Hid (Prp w' v l) ∧ Below w.heap.size w w' := by
  obtain ⟨ao, cap, rfl, hc⟩ := h
  rcases hc with rfl | ⟨b, off, rfl, hc⟩
  · refine (copyp_nil ao cap w).mono ?_
    rintro e w' ⟨rfl, rfl⟩
    exact ⟨_, rfl, ⟨none, 0, rfl, .inl rfl⟩, Below.refl _ _⟩
  · refine (copyp_core b off cap l _ w rfl hmx hc).mono ?_
    rintro e w' ⟨v', rfl, ho, hb⟩
    exact ⟨v', rfl, prp_of_owns (unhide ho), hb⟩

theorem Tryz.eqgP : Tryz.prog.eqGuardType Tryz.prog.depth 120 = false := by kernel_rfl
theorem Tryz.stoodP : Tryz.prog.stoodInHeld 120 = false := by kernel_rfl
theorem Tryz.undP : Tryz.prog.underlying 120 = some (.struct (Tryz.prog.fieldsOf 120)) := by kernel_rfl
def same (p q : Pr) : Bool := (p.1 == q.1 && p.2.1 == q.2.1 && p.2.2.1.toList == q.2.2.1.toList && p.2.2.2.toList == q.2.2.2.toList)
theorem neqP (id n id' n' : Int) (s t s' t' : ByteArray) (w : World) : (binOp .neq 120 (.agg #[.int .i64 id, .int .i64 n, .string s, .string t]) (.agg #[.int .i64 id', .int .i64 n', .string s', .string t'])).run Tryz.prog w = .ok (.bool (!(same (id, n, s, t) (id', n', s', t')))) w := by
  rw [run_neq_struct, run_equalIn_struct w 9999 120 _ _ Tryz.undP Tryz.stoodP]
  rw [show Tryz.prog.fieldsOf 120 = _ from rfl]
  simp [Program.fieldsOf, Tryz.underlying120, Op.eqFields, go_sem]
  unfold same
  by_cases h1 : id = id'
  · by_cases h2 : n = n'
    · by_cases h3 : s.toList = s'.toList
      · by_cases h4 : t.toList = t'.toList
        · simp [h1, h2, h3, h4]
        · simp [h1, h2, h3, h4]
      · simp [h1, h2, h3]
    · simp [h1, h2]
  · simp [h1]
theorem toList_inj {a b : ByteArray} (h : a.toList = b.toList) : a = b := by
  rw [ByteArray.toList_eq, ByteArray.toList_eq] at h
  obtain ⟨⟨x⟩⟩ := a
  obtain ⟨⟨y⟩⟩ := b
  simp at h
  rw [h]
theorem same_iff (p q : Pr) : same p q = true ↔ p = q := by
  obtain ⟨a, b, c, d⟩ := p
  obtain ⟨a', b', c', d'⟩ := q
  unfold same
  constructor
  · intro h
    simp only [Bool.and_eq_true, beq_iff_eq] at h
    obtain ⟨⟨⟨h1, h2⟩, h3⟩, h4⟩ := h
    rw [h1, h2, toList_inj h3, toList_inj h4]
  · rintro h
    injection h with h1 h
    injection h with h2 h
    injection h with h3 h4
    subst h1 h2 h3 h4
    simp
set_option maxHeartbeats 4000000 in
theorem eqp_core (ba oa bb ob ca cb : Nat) (l m : List Pr) (len : Nat) (w : World) (hl : l.length = len) (hm : m.length = len) (hmx : len ≤ 1000000000) (ha : PrAt w ba oa l) (hb : PrAt w bb ob m) :
    Calls Tryz.prog 64 #[.slice (some ⟨ba, oa, none⟩) len ca, .slice (some ⟨bb, ob, none⟩) len cb] w fun e w' => (∃ b, e = .returned (.bool b) ∧ (b = true ↔ ∀ j, j < len → at0 l j = at0 m j)) ∧ ∃ k, w' = w.drewN k := by
  have HL := hide hl
  have HM := hide hm
  have HA := hide ha
  have HB := hide hb
  clear hl hm ha hb
  go_enter Tryz.func64, Tryz.ntmps64
  go_wp2
  go_loopw [5] (fun i wr => ∃ k q : Nat, k ≤ len ∧ i = .int .i64 k ∧ wr = w.drewN q ∧ Hid (∀ j, j < k → at0 l j = at0 m j)) (fun i _ => len - (intOf i).toNat)
  case atStart => exact ⟨0, 0, Nat.zero_le _, rfl, rfl, fun j hj => absurd hj (Nat.not_lt_zero j)⟩
  case round =>
    obtain ⟨k, q, hk, rfl, rfl, HALL⟩ := hrel
    by_cases hlt : k < len
    · obtain ⟨h0, h1, h2, h3⟩ := (unhide HA) k (by rw [unhide HL]; exact hlt)
      obtain ⟨g0, g1, g2, g3⟩ := (unhide HB) k (by rw [unhide HM]; exact hlt)
      obtain ⟨id, n, s, t, hp⟩ : ∃ id n s t, at0 l k = (id, n, s, t) := ⟨_, _, _, _, rfl⟩
      obtain ⟨id', n', s', t', hp'⟩ : ∃ id n s t, at0 m k = (id, n, s, t) := ⟨_, _, _, _, rfl⟩
      rw [hp] at h0 h1 h2 h3
      rw [hp'] at g0 g1 g2 g3
      simp only at h0 h1 h2 h3 g0 g1 g2 g3
      have HP := hide hp
      have HP' := hide hp'
      clear hp hp'
      have qg := Tryz.eqgP
      have qn := fun W => neqP id n id' n' s t s' t' W
      generalize hsb : same (id, n, s, t) (id', n', s', t') = sb at qn
      have HSB := hide hsb
      clear hsb
      cases sb
      · have HNE : Hid (at0 l k ≠ at0 m k) := fun e => by
          rw [unhide HP, unhide HP'] at e
          have := (same_iff _ _).2 e
          rw [unhide HSB] at this
          cases this
        go_wp2
        go_quiet (fail)
        go_wp2
        go_ret
        refine ⟨⟨_, rfl, ?_⟩, q + nq, drewN_drewN _ _ _⟩
        constructor
        · intro h; cases h
        · intro h; exact absurd (h k hlt) (unhide HNE)
      · have HE : Hid (at0 l k = at0 m k) := by
          show _ = _
          rw [unhide HP, unhide HP']
          exact (same_iff _ _).1 (unhide HSB)
        go_wp2
        go_quiet (fail)
        go_wp2
        go_roundw
        case rel => exact ⟨k + 1, _, by omega, by go_num, rfl, fun j hj => by
          rcases Nat.lt_succ_iff_lt_or_eq.1 hj with h | h
          · exact (unhide HALL) j h
          · rw [h]; exact unhide HE⟩
        case measure => simp [intOf]; omega
    · go_wp2
      go_ret
      exact ⟨⟨_, rfl, fun _ j hj => (unhide HALL) j (by omega), fun _ => rfl⟩, _, rfl⟩
theorem eqp_len (ao bo : Option Addr) (n m ca cb : Nat) (w : World) (h : n ≠ m) :
    Calls Tryz.prog 64 #[.slice ao n ca, .slice bo m cb] w fun e w' => e = .returned (.bool false) ∧ w' = w := by
  have h1 : ((n : Int) == (m : Int)) = false := beq_eq_false_iff_ne.2 (by omega)
  go_enter Tryz.func64, Tryz.ntmps64
  go_wp2
  go_ret
  exact ⟨rfl, rfl⟩
theorem eqp_nil (ao bo : Option Addr) (ca cb : Nat) (w : World) :
    Calls Tryz.prog 64 #[.slice ao 0 ca, .slice bo 0 cb] w fun e w' => e = .returned (.bool true) ∧ w' = w := by
  go_enter Tryz.func64, Tryz.ntmps64
  go_wp2
  refine wp_loop_rounds 1 ?_
  rw [rounds_succ]
  go_wp2
  go_ret
  exact ⟨rfl, rfl⟩
theorem at0_ext {l m : List Pr} (hl : l.length = m.length) (h : ∀ j, j < l.length → at0 l j = at0 m j) : l = m := by
  apply List.ext_getElem hl
  intro i h1 h2
  have := h i h1
  unfold at0 at this
  rw [List.getD_eq_getElem?_getD, List.getD_eq_getElem?_getD, List.getElem?_eq_getElem h1, List.getElem?_eq_getElem h2] at this
  exact this
/-- two lists that are one -/
theorem eqp_same (va vb : Value) (l : List Pr) (w : World) (ha : Prp w va l) (hb : Prp w vb l) (hmx : l.length ≤ 1000000000) :
    Calls Tryz.prog 64 #[va, vb] w fun e w' => e = .returned (.bool true) ∧ Below w.heap.size w w' := by
  obtain ⟨ao, ca, rfl, ha⟩ := ha
  obtain ⟨bo, cb, rfl, hb⟩ := hb
  rcases ha with rfl | ⟨ba, oa, rfl, hca⟩
  · refine (eqp_nil _ _ _ _ _).mono ?_
    rintro e w' ⟨rfl, rfl⟩
    exact ⟨rfl, Below.refl _ _⟩
  · rcases hb with rfl | ⟨bb, ob, rfl, hcb⟩
    · refine (eqp_nil _ _ _ _ _).mono ?_
      rintro e w' ⟨rfl, rfl⟩
      exact ⟨rfl, Below.refl _ _⟩
    · refine (eqp_core ba oa bb ob ca cb l l _ w rfl rfl hmx hca hcb).mono ?_
      rintro e w' ⟨⟨b, rfl, hbb⟩, k, rfl⟩
      refine ⟨ret_bool (hbb.2 (fun _ _ => rfl)), below_drewN (Below.refl _ _) k⟩
end Go.Proofs.YtoocdfgjkeheaaaGreatDoor
/- Proved here: prop.read reads the properties of which bytes are made, or tells an error around ErrForm. Helper contracts. -/
namespace Go.Proofs.YtoocdfgjkeheaaaGreatDoor
open Go.RowKit
set_option maxRecDepth 100000

def lenOf : Value → Nat
  | .slice _ n _ => n
  | _ => 0
def ReadPost (place : Int) (l : List Int) (w : World) (e : Ending) (w' : World) : Prop :=
  (∃ q v, parse l = some q ∧ okTo place q q.length ∧ e = .returned (.tuple #[v, .int .i64 q.length, .nilIface]) ∧ Hid (w'.ownsRow w.heap.size 120 4 v (min q.length 32) (pcs (q.take 32))) ∧ Below w.heap.size w w') ∨
  (rdn place l = 1 ∧ ∃ E, e = .returned (.tuple #[.slice none 0 0, .int .i64 0, .iface 149 E]) ∧ Hid (ErrP w' (.iface 149 E) 1) ∧ Below w.heap.size w w')
theorem pcs_app (d : List Pr) (p : Pr) : pcs (d ++ [p]) = pcs d ++ [.int .i64 p.1, .int .i64 p.2.1, .string p.2.2.1, .string p.2.2.2] := by unfold pcs; simp
theorem okTo_snoc (place : Int) (d : List Pr) (p : Pr) (h : okTo place d d.length) (hp : okAt place (d ++ [p]) d.length = true) : okTo place (d ++ [p]) (d ++ [p]).length := by
  intro i hi
  rw [List.length_append, List.length_singleton] at hi
  rcases Nat.lt_or_ge i d.length with a | a
  · rw [okAt_app place d [p] i a]; exact h i a
  · obtain rfl : i = d.length := by omega
    exact hp
theorem prp_row {w w' : World} {R : Nat} {place : Int} {f g : Nat → Bool} (h : RowAt w R place f) (hb : Below w.heap.size w w') (e : ∀ j, j ≤ 42 → f j = g j) : RowAt w' R place g := (h.below hb).congr e
set_option maxHeartbeats 4000000 in
theorem read_any (v : Value) (l : List Int) (place : Int) (w : World) (h : Byt w v l) :
    Calls Tryz.prog 194 #[v, .int .i64 place] w (ReadPost place l w) := by
  obtain ⟨i0, hi, hz0, hz1, hz2⟩ := info_parts Tryz.infoProp
  obtain ⟨ao, cap, rfl, hc1, hc2⟩ := h.form
  unfold maxLen at hc2
  have HV := hide h
  clear h
  generalize hn : l.length = n at hc1 HV
  have HN := hide hn
  clear hn
  go_enter Tryz.func194, Tryz.ntmps194
  iterate 19 go_step
  refine wpList_value rfl (row_build _ _ _ _ _ _ place rfl _) ?_
  simp only [Act.put, List.setIfInBounds_toArray, List.set_cons_zero, List.set_cons_succ]
  refine wpList_value rfl (row_alloc _ _ _ _ _ _) ?_
  simp only [Act.put, List.setIfInBounds_toArray, List.set_cons_zero, List.set_cons_succ]
  refine wpList_skip rfl (row_store _ _ _ _ _ _ _ place _ rfl rfl) ?_
  simp only [Act.put]
  go_wp2
  have hR0 : Hid (RowAt (w.alloc (.cells (rowA place) 235)) w.heap.size place (fun _ => false)) := rowAt_new w place
  go_loopw [0, 4, 5] (fun b0 l0 c0 wr => ∃ (bv lv : Value) (rest : List Int) (d : List Pr) (k m : Nat), b0 = bv ∧ l0 = lv ∧ c0 = .int .i64 k ∧ m + k ≤ n ∧ Hid (d.length = k) ∧ Hid (rest.length = m) ∧ Hid (Byt w bv rest) ∧ Hid (parse l = (parse rest).map (d ++ ·)) ∧ Hid (okTo place d d.length) ∧ Hid (RowAt wr w.heap.size place (fun j => sn d j)) ∧ Hid (wr.ownsRow (w.heap.size + 1) 120 4 lv (min k 32) (pcs (d.take 32))) ∧ Below w.heap.size w wr) (fun b0 _ _ _ => lenOf b0)
  case atStart =>
    refine ⟨_, _, l, [], 0, n, rfl, rfl, rfl, by omega, rfl, unhide HN, unhide HV, ?_, okTo_zero _ _, (unhide hR0).congr (fun j _ => rfl), ?_, (Below.refl _ _).alloc (Nat.le_refl _) _⟩
    · show parse l = _
      cases parse l <;> simp
    · exact World.ownsRow_nil _ _ _ _
  case round =>
    obtain ⟨_, _, rest, d, k, m, rfl, rfl, rfl, hmk, HD, HM, HY, HP, HOK, HROW, HOWN, hbel⟩ := hrel
    clear hR0
    have hsz := hbel.size
    have hRl := (unhide HROW).lt
    obtain ⟨ao2, cap2, hu0, hcc1, hcc2⟩ := (unhide HY).form
    unfold maxLen at hcc2
    rw [unhide HM] at hu0 hcc1
    by_cases hm0 : m = 0
    · subst hu0
      subst hm0
      have HPA : Hid (parse l = some d) := by
        have hr0 : rest = [] := List.length_eq_zero_iff.1 (unhide HM)
        have := unhide HP
        rw [hr0, parse_nil] at this
        show parse l = some d
        simpa using this
      have HO2 : Hid (wr.ownsRow w.heap.size 120 4 u4 (min d.length 32) (pcs (d.take 32))) := by
        show World.ownsRow _ _ _ _ _ _ _
        rw [unhide HD]
        exact owns_mono (unhide HOWN) (by omega)
      have HDD : Hid ((k : Int) = (d.length : Int)) := by show _ = _; rw [unhide HD]
      go_wp2
      go_returns
      exact .inl ⟨d, _, unhide HPA, unhide HOK, by rw [← unhide HDD]; rfl, HO2, hbel⟩
    · have HNE : Hid (rest ≠ []) := by
        intro e
        have := unhide HM
        rw [e] at this
        simp at this
        omega
      have hbel' := hide hbel
      have HY' : Hid (Byt wr u0 rest) := (unhide HY).below hbel
      have HYW : Hid (Byt w u0 rest) := HY
      obtain ⟨b, off, cap3, hu1, -, -⟩ := (unhide HY).form1 (by rw [unhide HM]; omega)
      rw [hu0] at hu1
      simp only [Value.slice.injEq] at hu1
      obtain ⟨rfl, -, rfl⟩ := hu1
      subst hu0
      clear hbel HY
      cases hgk : gok rest
      · have HC : Hid (rdn place l = 1) := rdn_none place l (by rw [unhide HP, parse_no rest (unhide HNE) hgk]; rfl)
        have HGK := hide hgk
        clear hgk
        go_wp2_with fail
        refine (getOne_fail _ rest _ (unhide HY') (unhide HGK)).mono ?_
        rintro e w2 ⟨i2, n2, s2, t2, k2, ty2, x2, m2, rfl, hin2, hb2⟩
        have HB2 : Hid (Below w.heap.size w w2) := (unhide hbel').trans (hb2.mono hsz)
        have hs2 := (unhide HB2).size
        go_wp2_with fail
        refine (broken_use _ m2 _ ((unhide hin2).below ((Below.refl _ _).alloc (Nat.le_refl _) _))).mono ?_
        rintro e w4 ⟨E, rfl, hE, hb4⟩
        go_wp2
        go_returns
        exact .inr ⟨unhide HC, _, rfl, hE, ((unhide HB2).alloc hs2 _).trans (hb4.mono (by simp; omega))⟩
      · have hr := (unhide HY').range
        obtain ⟨hg1, hg2, hg3, hg4⟩ := gok_le rest hr hgk
        rw [unhide HM] at hg2
        have HTX := hide (gpr_txo rest hr hgk)
        have HPY := hide (parse_yes rest (unhide HNE) hr hgk)
        have HG1 := hide (getOne_good _ rest _ (unhide HY') hgk)
        clear hr hgk
        generalize hz : gsz rest = z at hg1 hg2 HPY HG1
        clear hz
        obtain ⟨id, N, s, t, hp⟩ : ∃ id N s t, gpr rest = (id, N, s, t) := ⟨_, _, _, _, rfl⟩
        have hid : id = gid rest := by have := congrArg Prod.fst hp; exact this.symm
        rw [← hid] at hg3 hg4
        rw [hp] at HTX HPY HG1
        clear hp hid
        have HP2 : Hid (parse l = (parse (rest.drop z)).map ((d ++ [(id, N, s, t)]) ++ ·)) := by
          show _ = _
          rw [unhide HP, unhide HPY, Option.map_map]
          congr 1
          funext x
          simp
        clear HPY HP
        go_wp2_with fail
        refine (unhide HG1).mono ?_
        rintro e w2 ⟨rfl, hb2⟩
        have HB2 : Hid (Below w.heap.size w w2) := (unhide hbel').trans (hb2.mono hsz)
        have hs2 := (unhide HB2).size
        have HROW2 : Hid (RowAt w2 w.heap.size place (fun j => sn d j)) := (unhide HROW).below hb2
        have HOWN2 : Hid (w2.ownsRow (w.heap.size + 1) 120 4 u4 (min k 32) (pcs (d.take 32))) := owns_below (unhide HOWN) hb2
        have hRl2 := (unhide HROW2).lt
        clear hb2 HROW HOWN HY' hbel' HG1
        have HOT := hide (okAt_mid place d [] (id, N, s, t))
        cases htk : tk place id N s t (sn d id)
        · have HC : Hid (rdn place l = 1) := rdn_bad place l _ d _ (unhide HP2) ((unhide HOT).trans (by simp only [htk, Bool.false_and]))
          have HTK := hide (tk_toNat (sn d) htk)
          clear htk HOT
          go_wp2_with fail
          refine (take_bad w.heap.size place id N s t (fun j => sn d j) _ ((unhide HROW2).below ((Below.refl _ _).alloc (Nat.le_refl _) _)) (unhide HTK)).mono ?_
          rintro e w3 ⟨E, rfl, hE, hb3⟩
          go_wp2
          go_returns
          exact .inr ⟨unhide HC, _, rfl, hE, ((unhide HB2).alloc hs2 _).trans (hb3.mono (by simp; omega))⟩
        · obtain ⟨hmst, hfit⟩ := tk_mst htk
          obtain ⟨hi1, hi2⟩ := id_range id place hmst
          obtain ⟨q, rfl⟩ : ∃ q : Nat, id = q := ⟨id.toNat, by omega⟩
          have HOKM : Hid (okAt place (d ++ [((q : Int), N, s, t)]) d.length = true) := (unhide HOT).trans (by simp only [htk, Bool.true_and]; exact (unhide HTX).1)
          have HOK2 : Hid (okTo place (d ++ [((q : Int), N, s, t)]) (d ++ [((q : Int), N, s, t)]).length) := okTo_snoc place d _ (unhide HOK) (unhide HOKM)
          have HTK := hide htk
          have HG : Hid (∀ j : Nat, j ≤ 42 → (sn d (j : Int) || decide (q = j)) = sn (d ++ [((q : Int), N, s, t)]) (j : Int)) := fun j _ => by
            rw [sn_snoc, show decide (((q : Int), N, s, t).1 = (j : Int)) = decide (q = j) from by rw [decide_eq_decide]; constructor <;> intro h <;> omega]
          clear htk hmst hfit HOT HOKM HOK
          go_wp2_with fail
          refine (take_use w.heap.size q place N s t (fun j => sn d j) (fun j => sn (d ++ [((q : Int), N, s, t)]) j) _ (by omega) ((unhide HROW2).below ((Below.refl _ _).alloc (Nat.le_refl _) _)) (unhide HTK) (unhide HG) w.heap.size (Nat.le_refl _)).mono ?_
          rintro e w3 ⟨rfl, HROW3, hb3, HOWT, HCT⟩
          have d0 : w3.cell? ⟨w2.heap.size, 0, none⟩ = some (.int .i64 (q : Int)) := ((unhide HCT) w2.heap.size 0 (by omega) (by simp)).trans (by simp)
          have d1 : w3.cell? ⟨w2.heap.size, 1, none⟩ = some (.int .i64 N) := ((unhide HCT) w2.heap.size 1 (by omega) (by simp)).trans (by simp)
          have d2 : w3.cell? ⟨w2.heap.size, 2, none⟩ = some (.string s) := ((unhide HCT) w2.heap.size 2 (by omega) (by simp)).trans (by simp)
          have d3 : w3.cell? ⟨w2.heap.size, 3, none⟩ = some (.string t) := ((unhide HCT) w2.heap.size 3 (by omega) (by simp)).trans (by simp)
          have HOWN3 : Hid (w3.ownsRow (w.heap.size + 1) 120 4 u4 (min k 32) (pcs (d.take 32))) := (unhide HOWT) _ _ _ _ _ _ (by omega) ((unhide HOWN2).alloc _)
          have HB3 : Hid (Below w.heap.size w w3) := ((unhide HB2).alloc hs2 _).trans hb3
          have hs3 : w.heap.size + 1 ≤ w3.heap.size := by have := (unhide HROW3).lt; omega
          clear hb3 HOWT HCT HOWN2 HROW2 HG HTK HB2
          have HLEN2 : Hid ((d ++ [((q : Int), N, s, t)]).length = k + 1) := by show _ = _; rw [List.length_append, unhide HD]; rfl
          by_cases h32 : k < 32
          · have HM1 : Hid (min k 32 = k) := Nat.min_eq_left (by omega)
            have HM2 : Hid (min (k + 1) 32 = k + 1) := Nat.min_eq_left (by omega)
            have HT1 : Hid (d.take 32 = d) := List.take_of_length_le (by rw [unhide HD]; omega)
            have HT2 : Hid ((d ++ [((q : Int), N, s, t)]).take 32 = d ++ [((q : Int), N, s, t)]) := List.take_of_length_le (by rw [unhide HLEN2]; omega)
            rw [unhide HM1, unhide HT1] at HOWN3
            go_wp2_with (first
              | (at_builtin; refine wpList_append_own _ rfl _ _ 24 rfl (w.heap.size + 1) 120 i0 _ 4 48 Tryz.underlying24 hi hz0 hz1 hz2 rfl (by decide) _ _ _ rfl ((unhide HOWN3).alloc _) ⟨w3.heap.size, 0, none⟩ 1 1 [.int .i64 (q : Int), .int .i64 N, .string s, .string t] rfl rfl (four_cell _ _ _ _ _ _) (four_one _ _ _ _) (by unfold maxLen; omega) (by omega) (by simp; omega) ?_)
              | go_in)
            intro v4 w4 hown4 hgrow4 _
            have HB4 : Hid (Below w.heap.size w w4) := ((unhide HB3).alloc (unhide HB3).size _).grown hgrow4 (by simp; omega) (fun g hg => by have := ((unhide HOWN3).lt g hg).1; omega)
            have HROW4 : Hid (RowAt w4 w.heap.size place (fun j => sn (d ++ [((q : Int), N, s, t)]) j)) := row_grown ((unhide HROW3).below ((Below.refl _ _).alloc (Nat.le_refl _) _)) hgrow4 (fun g hg => by have := ((unhide HOWN3).lt g hg).1; omega)
            have HOWN4 : Hid (w4.ownsRow (w.heap.size + 1) 120 4 v4 (min (k + 1) 32) (pcs ((d ++ [((q : Int), N, s, t)]).take 32))) := by
              show World.ownsRow _ _ _ _ _ _ _
              rw [unhide HM2, unhide HT2, pcs_app]
              exact hown4
            clear hown4 hgrow4 HOWN3 HROW3 d0 d1 d2 d3
            by_cases hcz : cap2 = z
            · have hm1 : m = cap2 := by omega
              have hm2 : m = z := by omega
              clear hcz
              subst hm1
              subst hm2
              have HBD : Hid (Byt w (.slice (some ⟨b, off, none⟩) 0 0) (rest.drop m)) := by
                show Byt _ _ _
                have := (unhide HYW).drop' m (Nat.le_refl _)
                rw [if_pos rfl, Nat.sub_self] at this
                exact this
              have HML : Hid ((rest.drop m).length = 0) := by show _ = _; rw [List.length_drop, unhide HM]; omega
              clear HYW HM
              go_wp2
              go_roundw
              case rel => exact ⟨_, _, _, _, k + 1, 0, rfl, rfl, by go_num, by omega, HLEN2, HML, HBD, HP2, HOK2, HROW4, HOWN4, unhide HB4⟩
              case measure => simp [lenOf]; omega
            · have HBD : Hid (Byt w (.slice (some ⟨b, off + z, none⟩) (m - z) (cap2 - z)) (rest.drop z)) := by
                show Byt _ _ _
                have := (unhide HYW).drop' z hg2
                rw [if_neg hcz] at this
                exact this
              have HML : Hid ((rest.drop z).length = m - z) := by show _ = _; rw [List.length_drop, unhide HM]
              clear HYW HM
              go_wp2
              go_roundw
              case rel => exact ⟨_, _, _, _, k + 1, m - z, rfl, rfl, by go_num, by omega, HLEN2, HML, HBD, HP2, HOK2, HROW4, HOWN4, unhide HB4⟩
              case measure => simp [lenOf]; omega
          · have HM1 : Hid (min k 32 = min (k + 1) 32) := by show _ = _; omega
            have HT1 : Hid (d.take 32 = (d ++ [((q : Int), N, s, t)]).take 32) := by show _ = _; rw [List.take_append_of_le_length (by rw [unhide HD]; omega)]
            rw [unhide HM1, unhide HT1] at HOWN3
            by_cases hcz : cap2 = z
            · have hm1 : m = cap2 := by omega
              have hm2 : m = z := by omega
              clear hcz
              subst hm1
              subst hm2
              have HBD : Hid (Byt w (.slice (some ⟨b, off, none⟩) 0 0) (rest.drop m)) := by
                show Byt _ _ _
                have := (unhide HYW).drop' m (Nat.le_refl _)
                rw [if_pos rfl, Nat.sub_self] at this
                exact this
              have HML : Hid ((rest.drop m).length = 0) := by show _ = _; rw [List.length_drop, unhide HM]; omega
              clear HYW HM
              go_wp2
              go_roundw
              case rel => exact ⟨_, _, _, _, k + 1, 0, rfl, rfl, by go_num, by omega, HLEN2, HML, HBD, HP2, HOK2, HROW3, HOWN3, unhide HB3⟩
              case measure => simp [lenOf]; omega
            · have HBD : Hid (Byt w (.slice (some ⟨b, off + z, none⟩) (m - z) (cap2 - z)) (rest.drop z)) := by
                show Byt _ _ _
                have := (unhide HYW).drop' z hg2
                rw [if_neg hcz] at this
                exact this
              have HML : Hid ((rest.drop z).length = m - z) := by show _ = _; rw [List.length_drop, unhide HM]
              clear HYW HM
              go_wp2
              go_roundw
              case rel => exact ⟨_, _, _, _, k + 1, m - z, rfl, rfl, by go_num, by omega, HLEN2, HML, HBD, HP2, HOK2, HROW3, HOWN3, unhide HB3⟩
              case measure => simp [lenOf]; omega
end Go.Proofs.YtoocdfgjkeheaaaGreatDoor
/- Proved here: prop.Get tells the properties with which bytes begin, and how many bytes, or an error's number (pgt). Helper contracts. -/
namespace Go.Proofs.YtoocdfgjkeheaaaGreatDoor
open Go.RowKit
set_option maxRecDepth 100000

/-- the bytes that a length at the beginning tells -/
def pbd (l : List Int) : List Int := (l.drop (ghd l)).take (gid l).toNat
/-- Get's number -/
def pgt (place : Int) (l : List Int) : Int := if (V.vget l).2.2 ≠ 0 then (V.vget l).2.2 else if l.length < ghd l + (gid l).toNat then 3 else rdn place (pbd l)
/-- Get's properties -/
def plist (place : Int) (l : List Int) : List Pr := if pgt place l = 0 then (parse (pbd l)).getD [] else []
/-- .. and how many bytes -/
def psz (place : Int) (l : List Int) : Int := if pgt place l = 0 then ghd l + (gid l).toNat else 0
def GetPost2 (place : Int) (l : List Int) (w : World) (e : Ending) (w' : World) : Prop :=
  ∃ v E, e = .returned (.tuple #[v, .int .i64 (psz place l), E]) ∧ Hid (w'.ownsRow w.heap.size 120 4 v (plist place l).length (pcs (plist place l))) ∧ Hid (ErrP w' E (pgt place l)) ∧ Below w.heap.size w w' ∧ (pgt place l = 0 → E = .nilIface)
theorem get_post_bad (place : Int) (l : List Int) (w w' : World) (n : Int) (hp : pgt place l = n) (hn : n ≠ 0) (x : Value) (hE : Hid (ErrP w' (.iface 149 x) n)) (hb : Below w.heap.size w w') : GetPost2 place l w (.returned (.tuple #[.slice none 0 0, .int .i64 0, .iface 149 x])) w' := by
  refine ⟨.slice none 0 0, .iface 149 x, ?_, ?_, by rw [hp]; exact hE, hb, fun h0 => absurd (hp.symm.trans h0) hn⟩
  · unfold psz
    rw [if_neg (by rw [hp]; exact hn)]
  · show World.ownsRow _ _ _ _ _ _ _
    unfold plist
    rw [if_neg (by rw [hp]; exact hn)]
    exact World.ownsRow_nil _ _ _ _
theorem ghd_le (l : List Int) (h2 : ghd l ≤ l.length) (h : V.put (gid l) = l.take (ghd l)) : ghd l ≤ 4 := by
  have a := congrArg List.length h
  rw [List.length_take, Nat.min_eq_left h2] at a
  have := (V.put_len (gid l)).2
  omega
theorem get3_bad1 (v : Value) (l : List Int) (place : Int) (w : World) (h : Byt w v l) (hv : (V.vget l).2.2 ≠ 0) : Calls Tryz.prog 167 #[v, .int .i64 place] w (GetPost2 place l w) := by
  have hp : pgt place l = (V.vget l).2.2 := by unfold pgt; rw [if_pos hv]
  obtain ⟨ao, cap, rfl, hc1, hc2⟩ := h.form
  have HV := hide h
  have HP := hide hp
  clear h hp
  generalize hm : (V.vget l).2.2 = m at hv HP
  generalize hn : l.length = n at hc1 HV
  have HM := hide hm
  clear hn hm
  go_enter Tryz.func167, Tryz.ntmps167
  go_wp2_with fail
  refine (vget_fail _ l _ (unhide HV) m (unhide HM) hv).mono ?_
  rintro e w1 ⟨a, b, x, rfl, hi, hb1⟩
  have HB1 := hide hb1
  clear hb1
  go_wp2_with fail
  refine (wrap_use _ m _ (unhide hi)).mono ?_
  rintro e w2 ⟨E, rfl, hE, hb2⟩
  go_wp2
  go_returns
  exact get_post_bad place l w _ m (unhide HP) hv _ hE ((unhide HB1).trans (hb2.mono (unhide HB1).size))
theorem get3_short (v : Value) (l : List Int) (place : Int) (w : World) (h : Byt w v l) (hv : (V.vget l).2.2 = 0) (hs : l.length < ghd l + (gid l).toNat) : Calls Tryz.prog 167 #[v, .int .i64 place] w (GetPost2 place l w) := by
  have hp : pgt place l = 3 := by unfold pgt; rw [if_neg (by rw [hv]; decide), if_pos hs]
  obtain ⟨hv', h1, h2, h3, h4, h5⟩ := vget_is l h.range hv
  have hQ4 := ghd_le l h2 h5
  clear h5
  obtain ⟨ao, cap, rfl, hc1, hc2⟩ := h.form
  unfold maxLen at hc2
  have HV := hide h
  have HP := hide hp
  clear h hp hv
  obtain ⟨N, hN⟩ : ∃ N : Nat, gid l = N := ⟨(gid l).toNat, by omega⟩
  rw [hN, Int.toNat_natCast] at hs
  rw [hN] at hv' h3 h4
  generalize ghd l = Q at hQ4 hv' h1 h2 hs
  have Hv := hide hv'
  generalize hn : l.length = n at hc1 HV h2 hs
  clear hn hv' hN
  go_enter Tryz.func167, Tryz.ntmps167
  go_wp2_with fail
  refine (vget_good _ l _ (unhide HV) N Q (unhide Hv)).mono ?_
  rintro e w1 ⟨rfl, hb1⟩
  have HB1 := hide hb1
  clear hb1
  go_wp2_with fail
  refine (pfault_use 3 _).mono ?_
  rintro e w2 ⟨E, rfl, hE, hb2⟩
  go_wp2
  go_returns
  exact get_post_bad place l w _ 3 (unhide HP) (by decide) _ hE ((unhide HB1).trans (hb2.mono (unhide HB1).size))
theorem Byt.mid {w : World} {b off n cap : Nat} {l : List Int} (h : Byt w (.slice (some ⟨b, off, none⟩) n cap) l) (p q : Nat) (hq : p + q ≤ n) : Byt w (.slice (if cap = p then some ⟨b, off, none⟩ else some ⟨b, off + p, none⟩) q (cap - p)) ((l.drop p).take q) :=
  (h.drop' p (by omega)).take q (by omega)
set_option maxHeartbeats 4000000 in
theorem get3_read (v : Value) (l : List Int) (place : Int) (w : World) (h : Byt w v l) (hv : (V.vget l).2.2 = 0) (hs : ghd l + (gid l).toNat ≤ l.length) : Calls Tryz.prog 167 #[v, .int .i64 place] w (GetPost2 place l w) := by
  have hp : pgt place l = rdn place (pbd l) := by unfold pgt; rw [if_neg (by rw [hv]; decide), if_neg (by omega)]
  have hsz : ∀ q, parse (pbd l) = some q → pgt place l = 0 → plist place l = q ∧ psz place l = ((ghd l + (gid l).toNat : Nat) : Int) := fun q hq h0 => by
    unfold plist psz
    rw [if_pos h0, if_pos h0, hq]
    exact ⟨rfl, by omega⟩
  obtain ⟨hv', h1, h2, h3, h4, h5⟩ := vget_is l h.range hv
  have hQ4 := ghd_le l h2 h5
  clear h5
  obtain ⟨b, off, cap, rfl, hc1, hc2⟩ := h.form1 (by omega)
  unfold maxLen at hc2
  have HV := hide h
  have HP := hide hp
  have HSZ := hide hsz
  clear h hp hv hsz
  have hpb : pbd l = (l.drop (ghd l)).take (gid l).toNat := rfl
  obtain ⟨N, hN⟩ : ∃ N : Nat, gid l = N := ⟨(gid l).toNat, by omega⟩
  rw [hN, Int.toNat_natCast] at hs HSZ hpb
  rw [hN] at hv' h3 h4
  generalize ghd l = Q at hQ4 hv' h1 h2 hs HSZ hpb
  generalize pbd l = L at HP HSZ hpb
  have Hv := hide hv'
  generalize hn : l.length = n at hc1 HV h2 hs
  have HPB := hide hpb
  clear hn hv' hN hpb
  by_cases hcQ : cap = Q
  · have e1 : Q = cap := hcQ.symm
    clear hcQ
    subst e1
    have e2 : Q = n := by omega
    subst e2
    obtain rfl : N = 0 := by omega
    have HD : Hid (Byt w (.slice (some ⟨b, off, none⟩) 0 0) L) := by
      show Byt _ _ _
      have := (unhide HV).mid Q 0 (by omega)
      rw [if_pos rfl, Nat.sub_self, ← unhide HPB] at this
      exact this
    go_enter Tryz.func167, Tryz.ntmps167
    go_wp2_with fail
    refine (vget_good _ l _ (unhide HV) 0 Q (unhide Hv)).mono ?_
    rintro e w1 ⟨rfl, hb1⟩
    have HB1 := hide hb1
    clear hb1
    go_wp2_with fail
    refine (read_any _ L place _ ((unhide HD).below (unhide HB1))).mono ?_
    rintro e w2 (⟨q, v2, hpar, hok, rfl, hown, hb2⟩ | ⟨hc, E, rfl, hE, hb2⟩)
    · have HPAR := hide hpar
      have HOK := hide hok
      have HB2 : Hid (Below w.heap.size w w2) := (unhide HB1).trans (hb2.mono (unhide HB1).size)
      have HOWN : Hid (w2.ownsRow w.heap.size 120 4 v2 (min q.length 32) (pcs (q.take 32))) := owns_mono (unhide hown) (unhide HB1).size
      have HRD : Hid (pgt place l = chkP place q) := (unhide HP).trans (rdn_some place L q hpar)
      clear hpar hok hb2 hown
      generalize hk : q.length = k at HOWN
      have HK := hide hk
      clear hk
      rcases Nat.lt_or_ge 32 k with h32 | h32
      · have HC : Hid (pgt place l = 2) := (unhide HRD).trans (chkP_lim place q (unhide HOK) (by rw [unhide HK]; exact h32))
        go_wp2_with fail
        refine (few_bad k _ (by omega)).mono ?_
        rintro e w3 ⟨E, rfl, hE, hb3⟩
        go_wp2
        go_returns
        exact get_post_bad place l w _ 2 (unhide HC) (by decide) _ hE ((unhide HB2).trans (hb3.mono (unhide HB2).size))
      · have HC : Hid (pgt place l = 0) := (unhide HRD).trans (chkP_ok place q (unhide HOK) (by rw [unhide HK]; exact h32))
        have HLS := hide ((unhide HSZ) q (unhide HPAR) (unhide HC))
        go_wp2_with fail
        refine (few_ok k _ (by omega)).mono ?_
        rintro e w3 ⟨rfl, hw⟩
        obtain rfl := hw.symm
        clear hw
        go_wp2
        go_returns
        refine ⟨_, _, by rw [(unhide HLS).2]; exact (by go_num), ?_, by rw [unhide HC]; exact ErrP.nil _, unhide HB2, fun _ => rfl⟩
        show World.ownsRow _ _ _ _ _ _ _
        rw [(unhide HLS).1, unhide HK]
        have := unhide HOWN
        rw [Nat.min_eq_left h32, List.take_of_length_le (by rw [unhide HK]; exact h32)] at this
        exact this
    · have HC : Hid (pgt place l = 1) := (unhide HP).trans hc
      clear hc
      go_wp2
      go_returns
      exact get_post_bad place l w _ 1 (unhide HC) (by decide) _ hE ((unhide HB1).trans (hb2.mono (unhide HB1).size))
  · have HD : Hid (Byt w (.slice (some ⟨b, off + Q, none⟩) N (cap - Q)) L) := by
      show Byt _ _ _
      have := (unhide HV).mid Q N (by omega)
      rw [if_neg hcQ, ← unhide HPB] at this
      exact this
    go_enter Tryz.func167, Tryz.ntmps167
    go_wp2_with fail
    refine (vget_good _ l _ (unhide HV) N Q (unhide Hv)).mono ?_
    rintro e w1 ⟨rfl, hb1⟩
    have HB1 := hide hb1
    clear hb1
    go_wp2_with fail
    refine (read_any _ L place _ ((unhide HD).below (unhide HB1))).mono ?_
    rintro e w2 (⟨q, v2, hpar, hok, rfl, hown, hb2⟩ | ⟨hc, E, rfl, hE, hb2⟩)
    · have HPAR := hide hpar
      have HOK := hide hok
      have HB2 : Hid (Below w.heap.size w w2) := (unhide HB1).trans (hb2.mono (unhide HB1).size)
      have HOWN : Hid (w2.ownsRow w.heap.size 120 4 v2 (min q.length 32) (pcs (q.take 32))) := owns_mono (unhide hown) (unhide HB1).size
      have HRD : Hid (pgt place l = chkP place q) := (unhide HP).trans (rdn_some place L q hpar)
      clear hpar hok hb2 hown
      generalize hk : q.length = k at HOWN
      have HK := hide hk
      clear hk
      rcases Nat.lt_or_ge 32 k with h32 | h32
      · have HC : Hid (pgt place l = 2) := (unhide HRD).trans (chkP_lim place q (unhide HOK) (by rw [unhide HK]; exact h32))
        go_wp2_with fail
        refine (few_bad k _ (by omega)).mono ?_
        rintro e w3 ⟨E, rfl, hE, hb3⟩
        go_wp2
        go_returns
        exact get_post_bad place l w _ 2 (unhide HC) (by decide) _ hE ((unhide HB2).trans (hb3.mono (unhide HB2).size))
      · have HC : Hid (pgt place l = 0) := (unhide HRD).trans (chkP_ok place q (unhide HOK) (by rw [unhide HK]; exact h32))
        have HLS := hide ((unhide HSZ) q (unhide HPAR) (unhide HC))
        go_wp2_with fail
        refine (few_ok k _ (by omega)).mono ?_
        rintro e w3 ⟨rfl, hw⟩
        obtain rfl := hw.symm
        clear hw
        go_wp2
        go_returns
        refine ⟨_, _, by rw [(unhide HLS).2]; exact (by go_num), ?_, by rw [unhide HC]; exact ErrP.nil _, unhide HB2, fun _ => rfl⟩
        show World.ownsRow _ _ _ _ _ _ _
        rw [(unhide HLS).1, unhide HK]
        have := unhide HOWN
        rw [Nat.min_eq_left h32, List.take_of_length_le (by rw [unhide HK]; exact h32)] at this
        exact this
    · have HC : Hid (pgt place l = 1) := (unhide HP).trans hc
      clear hc
      go_wp2
      go_returns
      exact get_post_bad place l w _ 1 (unhide HC) (by decide) _ hE ((unhide HB1).trans (hb2.mono (unhide HB1).size))
theorem get3_two (v : Value) (l : List Int) (place : Int) (w : World) (h : Byt w v l) : Calls Tryz.prog 167 #[v, .int .i64 place] w (GetPost2 place l w) := by
  by_cases hv : (V.vget l).2.2 = 0
  · rcases Nat.lt_or_ge l.length (ghd l + (gid l).toNat) with hs | hs
    · exact get3_short v l place w h hv hs
    · exact get3_read v l place w h hv hs
  · exact get3_bad1 v l place w h hv
def GetPost (place : Int) (l : List Int) (w : World) (e : Ending) (w' : World) : Prop :=
  ∃ v E, e = .returned (.tuple #[v, .int .i64 (psz place l), E]) ∧ Hid (w'.ownsRow w.heap.size 120 4 v (plist place l).length (pcs (plist place l))) ∧ Hid (ErrP w' E (pgt place l)) ∧ Below w.heap.size w w'
theorem get3_any (v : Value) (l : List Int) (place : Int) (w : World) (h : Byt w v l) : Calls Tryz.prog 167 #[v, .int .i64 place] w (GetPost place l w) := by
  refine (get3_two v l place w h).mono ?_
  rintro e w' ⟨v', E, h1, h2, h3, h4, _⟩
  exact ⟨v', E, h1, h2, h3, h4⟩
end Go.Proofs.YtoocdfgjkeheaaaGreatDoor
/- Proved here: packet's reader: props as a step of a plain reader. Helper contracts. -/
namespace Go.Proofs.YtoocdfgjkeheaaaGreatDoor.K
open Go.RowKit
set_option maxRecDepth 100000

theorem psz_len (place : Int) (l : List Int) : ∃ N : Nat, psz place l = (N : Int) ∧ N ≤ l.length := by
  unfold psz
  by_cases h : pgt place l = 0
  · rw [if_pos h]
    refine ⟨ghd l + (gid l).toNat, rfl, ?_⟩
    unfold pgt at h
    split at h
    · contradiction
    · split at h
      · contradiction
      · omega
  · rw [if_neg h]
    exact ⟨0, rfl, Nat.zero_le _⟩
def props? (place : Int) (l : List Int) : Option (List Pr × List Int) := if pgt place l = 0 then some (plist place l, l.drop (psz place l).toNat) else none
/-- a step that tells properties -/
def RdP (w0 : World) (R : Nat) (place : Int) (st : Option (List Int)) (w : World) (e : Ending) (w' : World) : Prop :=
  ∃ (t : Sl) (x : List Pr) (st' : Option (List Int)), e = .returned t.val ∧ Hid (w'.ownsRow w.heap.size 120 4 t.val x.length (pcs x)) ∧ Stp (props? place) st x st' ∧ RS w0 w' R st' ∧ BX R isRE w w'
set_option maxHeartbeats 1000000 in
theorem props_any (R : Nat) (place : Int) (st : Option (List Int)) (w0 w : World) (h : RS w0 w R st) : Calls Tryz.prog 120 #[.pointer (some ⟨R, 0, none⟩), .int .i64 place] w (RdP w0 R place st w) := by
  have hlt := h.lt
  obtain ⟨_, ⟨c, hd⟩, bv, l, E, hr, hb, hw, hR, hst⟩ := h
  obtain ⟨n, hN, hn⟩ := psz_len place l
  have HG := hide (get3_two bv l place w (hb.below hw))
  have HQ : Hid (props? place l = if pgt place l = 0 then some (plist place l, l.drop n) else none) := by
    show props? place l = _
    unfold props?
    rw [hN, Int.toNat_natCast]
  have HN := hide hN
  have hE := st_form hst
  have hst' : st = some l ∨ st = none := hst.imp And.left And.left
  have HR := hide hr
  have HB := hide hb
  have HA := hide (after w0 w)
  have HD := hide hd
  have HW := hide hw
  have HS := hide hst
  have HS' := hide hst'
  have HE := hide hE
  obtain ⟨h1, h2, h3, h4⟩ := hr
  clear hN hd hb hw hst hst' hE h2 h3 h4
  go_enter Tryz.func120, Tryz.ntmps120
  go_wp2_with fail
  refine (unhide HG).mono ?_
  rintro e w1 ⟨v, F, he, hO, hF, hB, hz⟩
  rw [unhide HN] at he
  subst he
  have HF : Hid (Bel w1 (fun k => k = R) F (pgt place l)) := by
    show Bel _ _ _ _
    by_cases h0 : pgt place l = 0
    · exact .inl ⟨h0, hz h0⟩
    · rcases er_of_p (unhide hF) with ⟨h, _⟩ | ⟨d, hd, h⟩
      · exact absurd h h0
      · exact .inr ⟨h0, d, hd, ErO.of ((hB.cell (p := ⟨R, 1, none⟩) hlt).trans (unhide HD)) h⟩
  obtain ⟨t, ht, _⟩ := owns_sl (unhide hO)
  subst ht
  have HB1 := hide hB
  have HR1 := hide ((unhide HR).below hB)
  clear hB h1 hF hz
  generalize pgt place l = m at HQ HF
  generalize plist place l = x at HQ hO
  clear HG HN
  go_wp2_with fail
  refine (fail_any R bv E F w1 (unhide HR1) (unhide HE) (unhide HF).form).mono ?_
  rintro e w2 ⟨rfl, hr2, hx2⟩
  have HR2 := hide hr2
  have HX2 := hide hx2
  clear hr2 hx2
  go_wp2_with fail
  refine (next_ok R bv (orE E F) l n w0 w2 (unhide HR2) (unhide HB) hn).mono ?_
  rintro e w3 ⟨v, bv', rfl, hv, hbv, hr3, hx3⟩
  have HV := hide hbv
  have HR3 := hide hr3
  have HX3 := hide hx3
  clear hv hbv hr3 hx3
  go_wp2
  go_ret
  have k := (unhide HA) w1 w2 w3 R (fun k => k = R) bv' E F st l n m c ⟨rfl, fun k hk => by rw [hk]; exact hlt⟩ (unhide HD) (unhide HW) hR (unhide HS) (unhide HB1) (unhide HF) (unhide HX2) (unhide HX3) (unhide HV) (unhide HR3)
  exact ⟨t, x, _, rfl, owns_bx (unhide hO) ((unhide HX2).trans (unhide HX3)) hlt, stp_get (props? place) st l x n m (unhide HS') (unhide HQ), k.1, k.2⟩
end Go.Proofs.YtoocdfgjkeheaaaGreatDoor.K
/- Proved here: packet's reader: reason. Helper contracts. -/
namespace Go.Proofs.YtoocdfgjkeheaaaGreatDoor.K
open Go.RowKit
set_option maxRecDepth 100000

def reason? (kind : Int) (l : List Int) : Option ((Int × List Pr) × List Int) := match l with
  | [] => some ((0, []), [])
  | c :: t => if t = [] then some ((c, []), []) else (props? kind t).map fun r => ((c, r.1), r.2)
/-- behind the reader's steps: the packet's Code and Props -/
def ReasonPost (w0 : World) (R : Nat) (p : Pkv) (st : Option (List Int)) (w : World) (e : Ending) (w' : World) : Prop :=
  e = .returned (.tuple #[]) ∧ ∃ (c : Int) (t : Sl) (x : List Pr) (st' : Option (List Int)), Pk w' R { p with code := c, props := t } ∧ Hid (w'.ownsRow w.heap.size 120 4 t.val x.length (pcs x)) ∧ Stp (reason? p.kind) st (c, x) st' ∧ RS w0 w' R st' ∧ BX R isAny w w'
theorem len_nil {st : Option (List Int)} {n : Nat} (h : ∀ l, st = some l → l.length = n) (hn : n = 0) : st = none ∨ st = some [] := by
  cases st with
  | none => exact .inl rfl
  | some l => exact .inr (by rw [List.length_eq_zero_iff.1 ((h l rfl).trans hn)])
theorem owns_nil (w : World) (B : Nat) (e : TypeId) (s : Nat) : w.ownsRow B e s (Sl.val ⟨none, 0, 0⟩) 0 [] := World.ownsRow_nil _ _ _ _
set_option maxHeartbeats 2000000 in
theorem reason_any (R : Nat) (p : Pkv) (st : Option (List Int)) (w0 w : World) (h : RS w0 w R st) (hp : Pk w R p) (hc : p.code = 0) (hpr : p.props = ⟨none, 0, 0⟩) : Calls Tryz.prog 124 #[.pointer (some ⟨R, 0, none⟩)] w (ReasonPost w0 R p st w) := by
  have hlt := h.lt
  obtain ⟨ao, n, cap, h19, ⟨hc1, hc2⟩, hl⟩ := h.rest
  unfold maxLen at hc2
  have HP := hide hp
  have HS := hide h
  have HL := hide hl
  have HC := hide hc
  have HPR := hide hpr
  clear hp h hl hc hpr
  by_cases hn : n = 0
  · subst hn
    go_enter Tryz.func124, Tryz.ntmps124
    go_wp2
    go_end0
    refine ⟨rfl, 0, ⟨none, 0, 0⟩, [], st, ?_, owns_nil _ _ _ _, ?_, unhide HS, BX.refl _ _ _⟩
    · have e : { p with code := 0, props := ⟨none, 0, 0⟩ } = p := by rw [← unhide HC, ← unhide HPR]
      rw [e]
      exact unhide HP
    · rcases len_nil (unhide HL) rfl with rfl | rfl
      · exact rfl
      · exact ⟨rfl, rfl⟩
  · go_enter Tryz.func124, Tryz.ntmps124
    go_wp2_with fail
    refine (one_any R st w0 w (unhide HS)).mono ?_
    rintro e w1 ⟨c, st1, rfl, hc, hs1, h1, hx1⟩
    have hp1 := (unhide HP).bx hx1
    have c14 := hp1.code
    have f14 := hp1.code_f
    have c0 := hp1.kind
    have c7 := hp1.props
    have f7 := hp1.props_f
    obtain ⟨ao1, n1, cap1, g19, ⟨gc1, gc2⟩, gl⟩ := h1.rest
    unfold maxLen at gc2
    have HP1 := hide hp1
    have HS1 := hide h1
    have HX1 := hide hx1
    have HST1 := hide hs1
    have GL := hide gl
    clear hp1 h1 hx1 hs1 gl h19
    by_cases hn1 : n1 = 0
    · subst hn1
      go_wp2
      go_end0
      refine ⟨rfl, c, ⟨none, 0, 0⟩, [], st1, ?_, owns_nil _ _ _ _, ?_, (unhide HS1).set 14 _ (by decide), ((unhide HX1).any).set 14 _ trivial⟩
      · have e : { p with code := c, props := ⟨none, 0, 0⟩ } = { p with code := c } := by rw [← unhide HPR]
        rw [e]
        exact (unhide HP1).set_code c
      · have k := unhide HST1
        cases st with
        | none => exact k
        | some l =>
          cases l with
          | nil => exact absurd ((unhide HL) [] rfl) (fun e => hn e.symm)
          | cons y t =>
            obtain ⟨rfl, rfl⟩ := k
            have ht : t = [] := List.length_eq_zero_iff.1 ((unhide GL) t rfl)
            simp [Stp, reason?, ht]
    · have HP2 := hide ((unhide HP1).set_code c)
      have HS2 := hide ((unhide HS1).set 14 (.int .i64 c) (by decide))
      have HX2 := hide (((unhide HX1).any).set 14 (.int .i64 c) trivial)
      go_wp2_with fail
      refine (props_any R p.kind st1 w0 _ (unhide HS2)).mono ?_
      rintro e w3 ⟨t, x, st3, rfl, hO, hs3, h3, hx3⟩
      have hp3 := (unhide HP2).bx hx3
      have d7 := hp3.props
      have e7 := hp3.props_f
      have HP3 := hide hp3
      have HS3 := hide h3
      have HX3 := hide hx3
      have HST3 := hide hs3
      clear hp3 h3 hx3 hs3 c14 f14 c0 c7 f7 g19
      go_wp2
      go_end0
      have hB : w.heap.size ≤ (w1.setCell ⟨R, 14, none⟩ (.int .i64 c)).heap.size := (unhide HX2).size
      refine ⟨rfl, c, t, x, st3, (unhide HP3).set_props t, ?_, ?_, (unhide HS3).set 7 _ (by decide), ((unhide HX2).trans (unhide HX3).any).set 7 _ trivial⟩
      · exact owns_mono (owns_bx (unhide hO) ((BX.refl R isAny w3).set 7 _ trivial) (Nat.lt_of_lt_of_le hlt hB)) hB
      · have k := unhide HST1
        have k3 := unhide HST3
        cases st with
        | none =>
          obtain rfl : st1 = none := k
          exact k3
        | some l =>
          cases l with
          | nil => exact absurd ((unhide HL) [] rfl) (fun e => hn e.symm)
          | cons y t' =>
            obtain ⟨rfl, rfl⟩ := k
            have ht : t' ≠ [] := fun e => hn1 (by rw [← (unhide GL) t' rfl, e]; rfl)
            simp only [Stp, reason?, if_neg ht]
            simp only [Stp] at k3
            cases hq : props? p.kind t' with
            | none => rw [hq] at k3; simpa using k3
            | some r =>
              obtain ⟨r1, r2⟩ := r
              rw [hq] at k3
              obtain ⟨rfl, rfl⟩ := k3
              simp
end Go.Proofs.YtoocdfgjkeheaaaGreatDoor.K
/- Proved here: what text.Put tells, whatever stands behind, is read back by text.Get; its beginnings are short; bytes of any kind turned into a text. Helpers. -/
namespace Go.Proofs.YtoocdfgjkeheaaaGreatDoor
open Go.RowKit

theorem tx_get0 (s : ByteArray) (l : List Int) : (tx s ++ l).getD 0 0 = (s.size : Int) / 256 := rfl
theorem tx_get1 (s : ByteArray) (l : List Int) : (tx s ++ l).getD 1 0 = (s.size : Int) % 256 := rfl
theorem nb_tx (s : ByteArray) (l : List Int) : nb (tx s ++ l) = s.size := by
  unfold nb
  rw [tx_get0, tx_get1]
  omega
theorem chk_utf {l : List Int} (h : chk l = 0) : utf l = true := by
  unfold chk at h
  by_cases u : utf l = true
  · exact u
  · rw [if_neg u] at h; omega
theorem chk_one {l : List Int} (h : chk l ≠ 0) (hl : l.length ≤ 65535) : chk l = 1 := by
  unfold chk at h ⊢
  by_cases u : utf l = true
  · rw [if_pos u, if_pos hl] at h; exact absurd rfl h
  · rw [if_neg u]
theorem gbs_tx (s : ByteArray) (l : List Int) : gbs (tx s ++ l) = s := by
  unfold gbs
  rw [nb_tx]
  have h : (tx s ++ l).drop 2 = sb s ++ l := rfl
  rw [h, List.take_append_of_le_length (by rw [sb_length]; exact Nat.le_refl _), List.take_of_length_le (by rw [sb_length]; exact Nat.le_refl _), bs_sb]
theorem gt_tx (s : ByteArray) (l : List Int) (h : chk (sb s) = 0) : gt (tx s ++ l) = (s, ((2 + s.size : Nat) : Int), 0) := by
  have hf : full (tx s ++ l) = true := by
    unfold full
    rw [nb_tx, List.length_append, tx_length]
    simp only [Bool.and_eq_true, decide_eq_true_eq]
    omega
  unfold gt
  rw [if_pos hf, gbs_tx, if_pos (chk_utf h), nb_tx]
theorem take_get (l : List Int) (m j : Nat) (h : j < m) : (l.take m).getD j 0 = l.getD j 0 := by
  rw [List.getD_eq_getElem?_getD, List.getElem?_take, if_pos h, ← List.getD_eq_getElem?_getD]
theorem gt_short (s : ByteArray) (m : Nat) (h : m < 2 + s.size) : gt ((tx s).take m) = (⟨#[]⟩, 0, 3) := by
  have hf : full ((tx s).take m) = false := by
    have hl : ((tx s).take m).length = m := by rw [List.length_take, tx_length]; omega
    unfold full
    rw [hl]
    by_cases h2 : 2 ≤ m
    · have hn : nb ((tx s).take m) = s.size := by
        have h0 := nb_tx s []
        rw [List.append_nil] at h0
        unfold nb at h0 ⊢
        rw [take_get _ _ _ (by omega), take_get _ _ _ (by omega)]
        exact h0
      rw [hn]
      simp only [Bool.and_eq_false_iff, decide_eq_false_iff_not]
      omega
    · simp [h2]
  unfold gt
  rw [if_neg (by rw [hf]; simp)]
/-- bytes of any kind turned into a text -/
theorem conv_byt (w : World) (v : Value) (l : List Int) (h : Byt w v l) : (convert 31 9 v).run Tryz.prog w = .ok (.string (bs l)) w := by
  obtain ⟨ao, cap, rfl, hlen, hr, hcase⟩ := h
  rcases hcase with rfl | ⟨b, off, rfl, hc⟩
  · cases ao with
    | none =>
      rw [run_convert_bytes_string w 31 9 5 none _ cap Tryz.underlying31 Tryz.underlying5 Tryz.underlying9]
      rfl
    | some a =>
      exact run_convert_bytes_back (P := Tryz.prog) w 31 9 5 a cap [] Tryz.underlying31 Tryz.underlying5 Tryz.underlying9 (fun j hj => by simp at hj)
  · exact conv_bytes w b off cap l hr hc
theorem bs_size (l : List Int) : (bs l).size = l.length := by
  unfold bs
  show Array.size _ = _
  simp
theorem chk_bs (l : List Int) (h : ∀ j, 0 ≤ l.getD j 0 ∧ l.getD j 0 ≤ 255) : chk (sb (bs l)) = chk l := by rw [sb_bs l h]
theorem chk_both (s : ByteArray) (l : List Int) (hr : ∀ j, 0 ≤ l.getD j 0 ∧ l.getD j 0 ≤ 255) (hs : chk (sb s) = 0) (hl : chk l = 0) (h1 : s.size ≤ 2000) (h2 : l.length ≤ 2000) : chk (sb (s ++ bs l)) = 0 := by
  rw [sb_append, sb_bs l hr]
  exact chk_app _ _ hs hl (by rw [sb_length]; omega)
/-- Get of a text's bytes, whatever stands behind; of a beginning -/
theorem get_tx (s : ByteArray) (N : Nat) (l : List Int) (v : Value) (w : World) (hN : Hid (N = 2 + s.size)) (hc : chk (sb s) = 0) (h : Byt w v (tx s ++ l)) :
    Calls Tryz.prog 191 #[v] w fun e w' => ∃ E, e = .returned (.tuple #[.string s, .int .i64 N, E]) ∧ Hid (ErrIs w' E 0) ∧ Below w.heap.size w w' := by
  have hg := get_any v _ w h
  rw [gt_tx s l hc] at hg
  rw [unhide hN]
  exact hg
theorem get_cut (s : ByteArray) (N m : Nat) (v : Value) (w : World) (hN : Hid (N = 2 + s.size)) (hm : m < N) (h : Byt w v ((tx s).take m)) :
    Calls Tryz.prog 191 #[v] w fun e w' => ∃ E, e = .returned (.tuple #[.string ⟨#[]⟩, .int .i64 0, E]) ∧ Hid (ErrIs w' E 3) ∧ Below w.heap.size w w' := by
  have hg := get_any v _ w h
  rw [gt_short s m (by have := unhide hN; omega)] at hg
  exact hg
theorem range_append (xs ys : List Int) (hx : ∀ j, 0 ≤ xs.getD j 0 ∧ xs.getD j 0 ≤ 255) (hy : ∀ j, 0 ≤ ys.getD j 0 ∧ ys.getD j 0 ≤ 255) : ∀ j, 0 ≤ (xs ++ ys).getD j 0 ∧ (xs ++ ys).getD j 0 ≤ 255 := by
  intro j
  by_cases h : j < xs.length
  · have := hx j
    rw [List.getD_eq_getElem?_getD, List.getElem?_append_left h, ← List.getD_eq_getElem?_getD]
    exact this
  · have := hy (j - xs.length)
    rw [List.getD_eq_getElem?_getD, List.getElem?_append_right (by omega), ← List.getD_eq_getElem?_getD]
    exact this
end Go.Proofs.YtoocdfgjkeheaaaGreatDoor
/- Proved here: packet's reader: publish. Helper contracts. -/
namespace Go.Proofs.YtoocdfgjkeheaaaGreatDoor.K
open Go.RowKit
set_option maxRecDepth 100000

/-- readers, one behind the other -/
def bindR {α β : Type} (f : List Int → Option (α × List Int)) (g : α → List Int → Option (β × List Int)) (l : List Int) : Option (β × List Int) := (f l).bind fun r => g r.1 r.2
def pureR {α : Type} (x : α) (l : List Int) : Option (α × List Int) := some (x, l)
def mustR (b : Bool) (l : List Int) : Option (Unit × List Int) := if b then some ((), l) else none
theorem Stp.bind {α β : Type} {f : List Int → Option (α × List Int)} {g : α → List Int → Option (β × List Int)} {st st1 st2 : Option (List Int)} {x : α} {y : β} (h1 : Stp f st x st1) (h2 : Stp (g x) st1 y st2) : Stp (bindR f g) st y st2 := by
  cases st with
  | none =>
    obtain rfl : st1 = none := h1
    exact h2
  | some l =>
    unfold Stp bindR
    simp only
    unfold Stp at h1
    simp only at h1
    cases hf : f l with
    | none =>
      rw [hf] at h1
      obtain rfl : st1 = none := h1
      exact h2
    | some r =>
      obtain ⟨a, l'⟩ := r
      rw [hf] at h1
      obtain ⟨rfl, rfl⟩ := h1
      exact h2
theorem Stp.pure {α : Type} (x : α) (st : Option (List Int)) : Stp (pureR x) st x st := by
  cases st with
  | none => rfl
  | some l => exact ⟨rfl, rfl⟩
theorem Stp.must (b : Bool) (st : Option (List Int)) : Stp (mustR b) st () (if b then st else none) := by
  cases st with
  | none => cases b <;> rfl
  | some l =>
    cases b
    · rfl
    · exact ⟨rfl, rfl⟩
theorem Stp.congr {α : Type} {f g : List Int → Option (α × List Int)} (h : ∀ l, f l = g l) {st st' : Option (List Int)} {x : α} (hs : Stp f st x st') : Stp g st x st' := by
  obtain rfl : f = g := funext h
  exact hs
/-- all that is left -/
def allR (l : List Int) : Option (ByteArray × List Int) := some (bs l, [])
theorem all_any (R n : Nat) (st : Option (List Int)) (w0 w : World) (h : RS w0 w R st) (ao : Option Addr) (cap : Nat) (h19 : w.cell? ⟨R, 19, none⟩ = some (.slice ao n cap)) :
    Calls Tryz.prog 165 #[.pointer (some ⟨R, 0, none⟩), .int .i64 n] w fun e w' => ∃ v l, e = .returned v ∧ Hid (Byt w' v l) ∧ Stp allR st (bs l) (st.map fun _ => []) ∧ RS w0 w' R (st.map fun _ => []) ∧ BX R isRE w w' := by
  obtain ⟨hX, ⟨c, hd⟩, bv, l, E, hr, hb, hw, hR, hst⟩ := h
  obtain rfl : bv = .slice ao n cap := by have := hr.1.symm.trans h19; simpa using this
  have hl : n = l.length := by
    obtain ⟨ao', cap', e, _⟩ := hb.form
    simp only [Value.slice.injEq] at e
    exact e.2.1
  refine (next_ok R _ E l n w0 w hr hb (by omega)).mono ?_
  rintro e w' ⟨v, bv', rfl, hv, hbv, hr', hx⟩
  rw [hl, List.take_length] at hv
  rw [hl, List.drop_length] at hbv
  have hk := hx.keep hw hR
  refine ⟨v, l, rfl, hv.below hk, ?_, ⟨xs_grow (X := fun k => k = R) hX hx.size, ⟨c, (hx.cell 1 isRE1).trans hd⟩, bv', [], E, hr', hbv, hk, hR, ?_⟩, hx⟩
  · rcases hst with ⟨rfl, _⟩ | ⟨rfl, _⟩
    · exact ⟨rfl, rfl⟩
    · exact rfl
  · rcases hst with ⟨rfl, rfl⟩ | ⟨rfl, d, k, hd', he⟩
    · exact .inl ⟨rfl, rfl⟩
    · exact .inr ⟨rfl, d, k, hd', ErO.bx (X := fun k => k = R) hx rfl he⟩
def publish? (qos : Int) : List Int → Option ((ByteArray × Int × List Pr × ByteArray) × List Int) :=
  bindR text? fun t => bindR (if 0 < qos then id? else pureR 0) fun i => bindR (props? 3) fun x => bindR allR fun y => pureR (t, i, x, y)
def PubPost (w0 : World) (R : Nat) (p : Pkv) (st : Option (List Int)) (w : World) (e : Ending) (w' : World) : Prop :=
  e = .returned (.tuple #[]) ∧ ∃ (t : ByteArray) (i : Int) (s : Sl) (x : List Pr) (y : ByteArray) (st' : Option (List Int)), Pk w' R { p with topic := t, id := i, props := s, payload := y } ∧ Hid (w'.ownsRow w.heap.size 120 4 s.val x.length (pcs x)) ∧ Stp (publish? p.qos) st (t, i, x, y) st' ∧ RS w0 w' R st' ∧ BX R isAny w w'
/-- behind the ID: Props and Payload -/
theorem pub_end (R : Nat) (p q : Pkv) (st : Option (List Int)) (w0 w w2 : World) (t : ByteArray) (i : Int) (st2 : Option (List Int)) (HX2 : Hid (BX R isAny w w2)) (hlt : R < w.heap.size)
    (HST : Hid (∀ x y st', Stp (bindR (props? 3) fun x => bindR allR fun y => pureR (t, i, x, y)) st2 (t, i, x, y) st' → Stp (publish? p.qos) st (t, i, x, y) st')) (HQ : Hid (q = { p with topic := t, id := i }))
    (w3 : World) (s : Sl) (x : List Pr) (st3 : Option (List Int)) (hO : Hid (w3.ownsRow w2.heap.size 120 4 s.val x.length (pcs x))) (HST3 : Hid (Stp (props? 3) st2 x st3)) (HX3 : Hid (BX R isAny w2 w3)) (HP3 : Hid (Pk w3 R { q with props := s }))
    (w4 : World) (l : List Int) (HST4 : Hid (Stp allR st3 (bs l) (st3.map fun _ => []))) (HS4 : Hid (RS w0 w4 R (st3.map fun _ => []))) (HX4 : Hid (BX R isRE w3 w4)) : PubPost w0 R p st w (.returned (.tuple #[])) (w4.setCell ⟨R, 6, none⟩ (.string (bs l))) := by
  have e := unhide HQ
  subst e
  have hB : w.heap.size ≤ w2.heap.size := (unhide HX2).size
  refine ⟨rfl, t, i, s, x, bs l, _, ((unhide HP3).bx (unhide HX4)).set_payload (bs l), ?_, (unhide HST) _ _ _ ((unhide HST3).bind ((unhide HST4).bind (Stp.pure _ _))), (unhide HS4).set 6 _ (by decide), (((unhide HX2).trans (unhide HX3)).trans (unhide HX4).any).set 6 _ trivial⟩
  exact owns_mono (owns_bx (owns_bx (unhide hO) (unhide HX4) (Nat.lt_of_lt_of_le hlt hB)) ((BX.refl R isAny w4).set 6 _ trivial) (Nat.lt_of_lt_of_le hlt hB)) hB
set_option maxHeartbeats 2000000 in
theorem publish_any (R : Nat) (p : Pkv) (st : Option (List Int)) (w0 w : World) (h : RS w0 w R st) (hp : Pk w R p) (hk : p.kind = 3) (hi : p.id = 0) : Calls Tryz.prog 121 #[.pointer (some ⟨R, 0, none⟩)] w (PubPost w0 R p st w) := by
  have hlt := h.lt
  have HP := hide hp
  have HS := hide h
  have HK := hide hk
  have HI := hide hi
  clear hp h hk hi
  go_enter Tryz.func121, Tryz.ntmps121
  go_wp2_with fail
  refine (text_any R st w0 w (unhide HS)).mono ?_
  rintro e w1 ⟨t, st1, rfl, hts, hs1, h1, hx1⟩
  have hp1 := (unhide HP).bx hx1
  have c4 := hp1.topic
  have f4 := hp1.topic_f
  have c2 := hp1.qos
  have c0 := hp1.kind
  have HP1 := hide (hp1.set_topic t)
  have HS1 := hide (h1.set 4 (.string t) (by decide))
  have HX1 := hide ((hx1.any).set 4 (.string t) trivial)
  have HST1 := hide hs1
  clear hp1 h1 hx1 hs1
  rw [unhide HK] at c0
  by_cases hq : 0 < p.qos
  · go_wp2_with fail
    refine (id_any R st1 w0 _ (unhide HS1)).mono ?_
    rintro e w2 ⟨i, st2, rfl, hii, hs2, h2, hx2⟩
    have hp2 := (unhide HP1).bx hx2
    have d5 := hp2.id
    have g5 := hp2.id_f
    have d0 := hp2.kind
    have HP2 := hide (hp2.set_id i)
    have HS2 := hide (h2.set 5 (.int .i64 i) (by decide))
    have HX2 := hide (((unhide HX1).trans hx2.any).set 5 (.int .i64 i) trivial)
    have HST2 : Hid (∀ x y st', Stp (bindR (props? 3) fun x => bindR allR fun y => pureR (t, i, x, y)) st2 (t, i, x, y) st' → Stp (publish? p.qos) st (t, i, x, y) st') := fun x y st' k => by
      unfold publish?
      rw [if_pos hq]
      exact (unhide HST1).bind (hs2.bind k)
    clear hp2 h2 hx2 hs2 c4 f4 c2 c0
    rw [show ({ p with topic := t } : Pkv).kind = 3 from unhide HK] at d0
    go_wp2_with fail
    refine (props_any R 3 st2 w0 _ (unhide HS2)).mono ?_
    rintro e w3 ⟨s, x, st3, rfl, hO, hs3, h3, hx3⟩
    have hp3 := (unhide HP2).bx hx3
    have e7 := hp3.props
    have f7 := hp3.props_f
    obtain ⟨ao, n, cap, g19, ⟨gc1, gc2⟩, gl⟩ := (h3.set 7 s.val (by decide)).rest
    unfold maxLen at gc2
    have G19 := hide g19
    have k19 : w3.cell? ⟨R, 19, none⟩ = some (.slice ao n cap) := by rw [World.cell?_setCell_other _ _ _ _ (by intro e; simp at e)] at g19; exact g19
    have HP3 := hide (hp3.set_props s)
    have HS3 := hide (h3.set 7 s.val (by decide))
    have HX3 := hide ((hx3.any).set 7 s.val trivial)
    have HST3 := hide hs3
    have HO3 : Hid ((w3.setCell ⟨R, 7, none⟩ s.val).ownsRow (w2.setCell ⟨R, 5, none⟩ (.int .i64 i)).heap.size 120 4 s.val x.length (pcs x)) := owns_bx (unhide hO) ((BX.refl R isAny w3).set 7 _ trivial) (Nat.lt_of_lt_of_le hlt (unhide HX2).size)
    clear hp3 h3 hx3 hs3 d5 g5 d0 g19 gl hO
    go_wp2_with fail
    refine (all_any R n st3 w0 _ (unhide HS3) ao cap (unhide G19)).mono ?_
    rintro e w4 ⟨v, l, rfl, hv, hs4, h4, hx4⟩
    have hcv := conv_byt w4 v l (unhide hv)
    have hp4 := (unhide HP3).bx hx4
    have c6 := hp4.payload
    have f6 := hp4.payload_f
    have HX4 := hide hx4
    have HS4 := hide h4
    have HST4 := hide hs4
    clear hx4 h4 hs4 hp4 e7 f7 k19 hv
    go_wp2
    go_end0
    exact pub_end R p { p with topic := t, id := i } st w0 w _ t i st2 HX2 hlt HST2 (hide rfl) _ s x st3 HO3 HST3 HX3 HP3 w4 l HST4 HS4 HX4
  · have HST2 : Hid (∀ x y st', Stp (bindR (props? 3) fun x => bindR allR fun y => pureR (t, (0 : Int), x, y)) st1 (t, (0 : Int), x, y) st' → Stp (publish? p.qos) st (t, (0 : Int), x, y) st') := fun x y st' k => by
      unfold publish?
      rw [if_neg hq]
      exact (unhide HST1).bind ((Stp.pure 0 st1).bind k)
    go_wp2_with fail
    refine (props_any R 3 st1 w0 _ (unhide HS1)).mono ?_
    rintro e w3 ⟨s, x, st3, rfl, hO, hs3, h3, hx3⟩
    have hp3 := (unhide HP1).bx hx3
    have e7 := hp3.props
    have f7 := hp3.props_f
    obtain ⟨ao, n, cap, g19, ⟨gc1, gc2⟩, gl⟩ := (h3.set 7 s.val (by decide)).rest
    unfold maxLen at gc2
    have G19 := hide g19
    have k19 : w3.cell? ⟨R, 19, none⟩ = some (.slice ao n cap) := by rw [World.cell?_setCell_other _ _ _ _ (by intro e; simp at e)] at g19; exact g19
    have HP3 := hide (hp3.set_props s)
    have HS3 := hide (h3.set 7 s.val (by decide))
    have HX3 := hide ((hx3.any).set 7 s.val trivial)
    have HST3 := hide hs3
    have HO3 : Hid ((w3.setCell ⟨R, 7, none⟩ s.val).ownsRow (w1.setCell ⟨R, 4, none⟩ (.string t)).heap.size 120 4 s.val x.length (pcs x)) := owns_bx (unhide hO) ((BX.refl R isAny w3).set 7 _ trivial) (Nat.lt_of_lt_of_le hlt (unhide HX1).size)
    clear hp3 h3 hx3 hs3 c4 f4 c2 c0 g19 gl hO
    go_wp2_with fail
    refine (all_any R n st3 w0 _ (unhide HS3) ao cap (unhide G19)).mono ?_
    rintro e w4 ⟨v, l, rfl, hv, hs4, h4, hx4⟩
    have hcv := conv_byt w4 v l (unhide hv)
    have hp4 := (unhide HP3).bx hx4
    have c6 := hp4.payload
    have f6 := hp4.payload_f
    have HX4 := hide hx4
    have HS4 := hide h4
    have HST4 := hide hs4
    clear hx4 h4 hs4 hp4 e7 f7 k19 hv
    go_wp2
    go_end0
    exact pub_end R p { p with topic := t } st w0 w _ t 0 st1 HX1 hlt HST2 (by show _ = _; rw [← unhide HI]) _ s x st3 HO3 HST3 HX3 HP3 w4 l HST4 HS4 HX4
end Go.Proofs.YtoocdfgjkeheaaaGreatDoor.K
/- Proved here: packet's reader: sub. Helper contracts. -/
namespace Go.Proofs.YtoocdfgjkeheaaaGreatDoor.K
open Go.RowKit
set_option maxRecDepth 100000

/-- a subscription -/
structure Sb where
  filter : ByteArray
  qos : Int
  nolocal : Bool
  aspub : Bool
  handling : Int
abbrev Sb.val (s : Sb) : Value := .agg #[.string s.filter, .int .i64 s.qos, .bool s.nolocal, .bool s.aspub, .int .i64 s.handling]
/-- a byte's parts -/
def btest (x k : Int) : Bool := decide (x / k % 2 = 1)
def sbOf (f : ByteArray) (o : Int) : Sb := ⟨f, o % 4, btest o 4, btest o 8, o / 16⟩
def sub? : List Int → Option (Sb × List Int) := bindR text? fun f => bindR one? fun o => bindR (mustR (opk (o % 4) (o / 16))) fun _ => pureR (sbOf f o)
theorem byte_cases {P : Int → Prop} (h : ∀ n : Fin 256, P (n.val : Int)) (x : Int) (h0 : 0 ≤ x) (h1 : x ≤ 255) : P x := by
  obtain ⟨n, rfl⟩ := Int.eq_ofNat_of_zero_le h0
  exact h ⟨n, by omega⟩
theorem and3 (x : Int) (h0 : 0 ≤ x) (h1 : x ≤ 255) : bits .and .i64 x 3 = x % 4 := byte_cases (P := fun x => bits .and .i64 x 3 = x % 4) (by decide +kernel) x h0 h1
theorem and4 (x : Int) (h0 : 0 ≤ x) (h1 : x ≤ 255) : (bits .and .i64 x 4 != 0) = btest x 4 := byte_cases (P := fun x => (bits .and .i64 x 4 != 0) = btest x 4) (by decide +kernel) x h0 h1
theorem and8 (x : Int) (h0 : 0 ≤ x) (h1 : x ≤ 255) : (bits .and .i64 x 8 != 0) = btest x 8 := byte_cases (P := fun x => (bits .and .i64 x 8 != 0) = btest x 8) (by decide +kernel) x h0 h1
theorem sh4 (x : Int) (h0 : 0 ≤ x) (h1 : x ≤ 255) : x >>> 4 = x / 16 := byte_cases (P := fun x => x >>> 4 = x / 16) (by decide +kernel) x h0 h1
/-- a step that tells a subscription -/
def RdSubX (w0 : World) (R : Nat) (X : Nat → Prop) (st : Option (List Int)) (w : World) (e : Ending) (w' : World) : Prop :=
  ∃ (x : Sb) (st' : Option (List Int)), e = .returned x.val ∧ Stp sub? st x st' ∧ RSX w0 w' R X st' ∧ BX R isRE w w'
theorem BX.frz {R : Nat} {may : Nat → Prop} {a b : World} (h : BX R may a b) {p : Addr} (hp : p.block < a.heap.size) (hR : p.block ≠ R) : b.frozen? p = a.frozen? p := World.frozen?_of_block (h.block p.block hp hR)
/-- a return of a subscription that lies in memory -/
theorem res_sub {fn : Func} {a : Tmp} (h : fn.results = #[.cell a 75]) {tmps : Array Value} {w : World} {B : Nat} {v0 v1 v2 v3 v4 : Value} (ha : tmps[a]?.getD undef = .pointer (some ⟨B, 0, none⟩)) (c0 : w.cell? ⟨B, 0, none⟩ = some v0) (c1 : w.cell? ⟨B, 1, none⟩ = some v1) (c2 : w.cell? ⟨B, 2, none⟩ = some v2) (c3 : w.cell? ⟨B, 3, none⟩ = some v3) (c4 : w.cell? ⟨B, 4, none⟩ = some v4) :
    (results fn tmps).run Tryz.prog w = .ok (.agg #[v0, v1, v2, v3, v4]) w := by
  simp [results, h, ha, go_sem, c0, c1, c2, c3, c4]
set_option maxHeartbeats 2000000 in
theorem sub_anyX (R : Nat) (X : Nat → Prop) (st : Option (List Int)) (w0 w : World) (h : RSX w0 w R X st) : Calls Tryz.prog 168 #[.pointer (some ⟨R, 0, none⟩)] w (RdSubX w0 R X st w) := by
  have hlt := h.lt
  have HS := hide h
  clear h
  go_enter Tryz.func168, Tryz.ntmps168
  go_wp2_with fail
  refine (text_anyX R X st w0 _ ((unhide HS).below ((Below.refl _ _).alloc (Nat.le_refl _) _))).mono ?_
  rintro e w1 ⟨f, st1, rfl, hfs, hs1, h1, hx1⟩
  have HS1 := hide h1
  have HX1 := hide hx1
  have HST1 := hide hs1
  clear h1 hx1 hs1
  go_wp2_with fail
  refine (one_anyX R X st1 w0 _ ((unhide HS1).below ((Below.refl _ _).alloc (Nat.le_refl _) _))).mono ?_
  rintro e w2 ⟨o, st2, rfl, ho, hs2, h2, hx2⟩
  have hR1 : R < w1.heap.size := Nat.lt_of_lt_of_le (Nat.lt_succ_of_lt hlt) (by simpa using (unhide HX1).size)
  have hQ1 : w.heap.size < w1.heap.size := by
    have := (unhide HX1).size
    simp at this
    omega
  have v0 := hx2.far (p := ⟨w1.heap.size, 0, none⟩) (v := .string f) (by simp) (by simp; omega)
  have v1 := hx2.far (p := ⟨w1.heap.size, 1, none⟩) (v := .int .i64 0) (by simp) (by simp; omega)
  have v2 := hx2.far (p := ⟨w1.heap.size, 2, none⟩) (v := .bool false) (by simp) (by simp; omega)
  have v3 := hx2.far (p := ⟨w1.heap.size, 3, none⟩) (v := .bool false) (by simp) (by simp; omega)
  have v4 := hx2.far (p := ⟨w1.heap.size, 4, none⟩) (v := .int .i64 0) (by simp) (by simp; omega)
  have u1 : w2.frozen? ⟨w1.heap.size, 1, none⟩ = false := (hx2.frz (p := ⟨w1.heap.size, 1, none⟩) (by simp) (by simp; omega)).trans (by simp)
  have u2 : w2.frozen? ⟨w1.heap.size, 2, none⟩ = false := (hx2.frz (p := ⟨w1.heap.size, 2, none⟩) (by simp) (by simp; omega)).trans (by simp)
  have u3 : w2.frozen? ⟨w1.heap.size, 3, none⟩ = false := (hx2.frz (p := ⟨w1.heap.size, 3, none⟩) (by simp) (by simp; omega)).trans (by simp)
  have u4 : w2.frozen? ⟨w1.heap.size, 4, none⟩ = false := (hx2.frz (p := ⟨w1.heap.size, 4, none⟩) (by simp) (by simp; omega)).trans (by simp)
  have qb : w2.heap[w.heap.size]? = some (.cells #[.string ⟨#[]⟩, .int .i64 0, .bool false, .bool false, .int .i64 0] 75) := by
    rw [hx2.block w.heap.size (by simp; omega) (by omega), ((Below.refl w1.heap.size w1).alloc (Nat.le_refl _) _).block w.heap.size hQ1, (unhide HX1).block w.heap.size (by simp) (by omega)]
    exact Array.getElem?_push_size
  have QB := hide qb
  have b1 := and3 o ho.1 ho.2
  have b2 := and4 o ho.1 ho.2
  have b3 := and8 o ho.1 ho.2
  have b4 := sh4 o ho.1 ho.2
  have HS2 := hide h2
  have HX2 := hide hx2
  have HST2 := hide hs2
  clear h2 hx2 hs2 qb
  have HS3 : Hid (RSX w0 ((((w2.setCell ⟨w1.heap.size, 1, none⟩ (.int .i64 (o % 4))).setCell ⟨w1.heap.size, 4, none⟩ (.int .i64 (o / 16))).setCell ⟨w1.heap.size, 2, none⟩ (.bool (btest o 4))).setCell ⟨w1.heap.size, 3, none⟩ (.bool (btest o 8))) R X st2) := by
    have hne : w1.heap.size ≠ R := by omega
    have h0 := Nat.le_trans (unhide HS1).keep.size (Nat.le_refl _)
    refine ((((unhide HS2).setOut _ 1 _ hne h0 ?_).setOut _ 4 _ hne h0 ?_).setOut _ 2 _ hne h0 ?_).setOut _ 3 _ hne h0 ?_
    · intro t x e; rw [v1] at e; cases e
    all_goals (intro t x e; simp (maxDischargeDepth := 12) [cell_set, v1] at e)
  have HX3 : Hid (BX R isRE w ((((w2.setCell ⟨w1.heap.size, 1, none⟩ (.int .i64 (o % 4))).setCell ⟨w1.heap.size, 4, none⟩ (.int .i64 (o / 16))).setCell ⟨w1.heap.size, 2, none⟩ (.bool (btest o 4))).setCell ⟨w1.heap.size, 3, none⟩ (.bool (btest o 8)))) := by
    have hq := Nat.le_of_lt hQ1
    have k0 : BX R isRE w w2 := ((BX.of_below ((Below.refl _ _).alloc (Nat.le_refl _) _) hlt).trans (unhide HX1)).trans ((BX.of_below ((Below.refl _ _).alloc (Nat.le_refl _) _) hR1).trans (unhide HX2))
    exact (((k0.setOut _ 1 _ hq hlt).setOut _ 4 _ hq hlt).setOut _ 2 _ hq hlt).setOut _ 3 _ hq hlt
  go_wp2_with fail
  refine (optionsOf_any f (o % 4) (btest o 4) (btest o 8) (o / 16) _).mono ?_
  rintro e w3 ⟨rfl, hb3⟩
  have HS4 := hide ((unhide HS3).below hb3)
  have HX4 : Hid (BX R isRE w w3) := (unhide HX3).trans (BX.of_below hb3 (unhide HS3).lt)
  have HB3 := hide hb3
  clear hb3
  go_wp2_with fail
  refine (must_anyX R X _ st2 w0 w3 (unhide HS4)).mono ?_
  rintro e w4 ⟨rfl, h4, hx4⟩
  have vb : w4.heap[w1.heap.size]? = ((((w2.setCell ⟨w1.heap.size, 1, none⟩ (.int .i64 (o % 4))).setCell ⟨w1.heap.size, 4, none⟩ (.int .i64 (o / 16))).setCell ⟨w1.heap.size, 2, none⟩ (.bool (btest o 4))).setCell ⟨w1.heap.size, 3, none⟩ (.bool (btest o 8))).heap[w1.heap.size]? := by
    have hl := cell_lt v0
    rw [hx4.block w1.heap.size (Nat.lt_of_lt_of_le hl (by simpa [World.setCell] using (unhide HB3).size)) (by omega), (unhide HB3).block w1.heap.size (by simpa [World.setCell] using hl)]
  have x0 : w4.cell? ⟨w1.heap.size, 0, none⟩ = some (.string f) := (World.cell?_of_block (a := ⟨w1.heap.size, 0, none⟩) vb).trans (by simp (maxDischargeDepth := 12) [cell_set, v0])
  have x1 : w4.cell? ⟨w1.heap.size, 1, none⟩ = some (.int .i64 (o % 4)) := (World.cell?_of_block (a := ⟨w1.heap.size, 1, none⟩) vb).trans (by simp (maxDischargeDepth := 12) [cell_set, v1])
  have x2 : w4.cell? ⟨w1.heap.size, 2, none⟩ = some (.bool (btest o 4)) := (World.cell?_of_block (a := ⟨w1.heap.size, 2, none⟩) vb).trans (by simp (maxDischargeDepth := 12) [cell_set, v2])
  have x3 : w4.cell? ⟨w1.heap.size, 3, none⟩ = some (.bool (btest o 8)) := (World.cell?_of_block (a := ⟨w1.heap.size, 3, none⟩) vb).trans (by simp (maxDischargeDepth := 12) [cell_set, v3])
  have x4 : w4.cell? ⟨w1.heap.size, 4, none⟩ = some (.int .i64 (o / 16)) := (World.cell?_of_block (a := ⟨w1.heap.size, 4, none⟩) vb).trans (by simp (maxDischargeDepth := 12) [cell_set, v4])
  have qb : w4.heap[w.heap.size]? = some (.cells #[.string ⟨#[]⟩, .int .i64 0, .bool false, .bool false, .int .i64 0] 75) := by
    have hl := Nat.lt_trans hQ1 (cell_lt v0)
    rw [hx4.block w.heap.size (Nat.lt_of_lt_of_le hl (by simpa [World.setCell] using (unhide HB3).size)) (by omega), (unhide HB3).block w.heap.size (by simpa [World.setCell] using hl)]
    rw [Below.heap_setCell _ _ _ _ (by show _ ≠ w1.heap.size; omega), Below.heap_setCell _ _ _ _ (by show _ ≠ w1.heap.size; omega), Below.heap_setCell _ _ _ _ (by show _ ≠ w1.heap.size; omega), Below.heap_setCell _ _ _ _ (by show _ ≠ w1.heap.size; omega)]
    exact unhide QB
  have y0 : w4.cell? ⟨w.heap.size, 0, none⟩ = some (.string ⟨#[]⟩) := by simp [World.cell?, qb]
  have y1 : w4.cell? ⟨w.heap.size, 1, none⟩ = some (.int .i64 0) := by simp [World.cell?, qb]
  have y2 : w4.cell? ⟨w.heap.size, 2, none⟩ = some (.bool false) := by simp [World.cell?, qb]
  have y3 : w4.cell? ⟨w.heap.size, 3, none⟩ = some (.bool false) := by simp [World.cell?, qb]
  have y4 : w4.cell? ⟨w.heap.size, 4, none⟩ = some (.int .i64 0) := by simp [World.cell?, qb]
  have z : ∀ j, w4.frozen? ⟨w.heap.size, j, none⟩ = false := fun j => by simp [World.frozen?, qb]
  have HS5 := hide h4
  have HX5 := hide hx4
  clear h4 hx4 vb qb v0 v1 v2 v3 v4 u1 u2 u3 u4 b1 b2 b3 b4
  go_wp2
  refine bodyPost_ret (res_sub (B := w.heap.size) (v0 := .string f) (v1 := .int .i64 (o % 4)) (v2 := .bool (btest o 4)) (v3 := .bool (btest o 8)) (v4 := .int .i64 (o / 16)) rfl rfl ?c0 ?c1 ?c2 ?c3 ?c4) rfl ?_
  case c0 => simp (maxDischargeDepth := 12) [cell_set, y0]
  case c1 => simp (maxDischargeDepth := 12) [cell_set, y1]
  case c2 => simp (maxDischargeDepth := 12) [cell_set, y2]
  case c3 => simp (maxDischargeDepth := 12) [cell_set, y3]
  case c4 => simp (maxDischargeDepth := 12) [cell_set, y4]
  have hle := Nat.le_refl w.heap.size
  have hne : w.heap.size ≠ R := by omega
  have h0 : w0.heap.size ≤ w.heap.size := (unhide HS).keep.size
  refine ⟨sbOf f o, _, rfl, (unhide HST1).bind ((unhide HST2).bind ((Stp.must _ st2).bind (Stp.pure _ _))), ?_, ((((((unhide HX4).trans (unhide HX5)).setOut _ 0 _ hle hlt).setOut _ 1 _ hle hlt).setOut _ 2 _ hle hlt).setOut _ 3 _ hle hlt).setOut _ 4 _ hle hlt⟩
  refine (((((unhide HS5).setOut _ 0 _ hne h0 ?_).setOut _ 1 _ hne h0 ?_).setOut _ 2 _ hne h0 ?_).setOut _ 3 _ hne h0 ?_).setOut _ 4 _ hne h0 ?_
  · intro t x e; rw [y1] at e; cases e
  all_goals (intro t x e; simp (maxDischargeDepth := 12) [cell_set, y1] at e)
end Go.Proofs.YtoocdfgjkeheaaaGreatDoor.K
/- Proved here: readers that read till the end (many), plainly. Helpers that name no function. -/
namespace Go.Proofs.YtoocdfgjkeheaaaGreatDoor.K
open Go.RowKit

theorem bel_drew (w : World) : Below w.heap.size w w.drew := kbelow_drew w
def many {α : Type} (f : List Int → Option (α × List Int)) : Nat → List Int → Option (List α × List Int)
  | 0, l => if l = [] then some ([], []) else none
  | n + 1, l => if l = [] then some ([], []) else (f l).bind fun r => (many f n r.2).map fun s => (r.1 :: s.1, s.2)
/-- it reads something -/
def Shr {α : Type} (f : List Int → Option (α × List Int)) : Prop := ∀ l x l', f l = some (x, l') → l'.length < l.length
def manyR {α : Type} (f : List Int → Option (α × List Int)) (l : List Int) : Option (List α × List Int) := many f l.length l
theorem many_nil {α : Type} (f : List Int → Option (α × List Int)) (n : Nat) : many f n [] = some ([], []) := by cases n <;> simp [many]
theorem many_fuel {α : Type} {f : List Int → Option (α × List Int)} (hf : Shr f) : ∀ (n m : Nat) (l : List Int), l.length ≤ n → l.length ≤ m → many f n l = many f m l
  | 0, m, l, hn, _ => by
    obtain rfl : l = [] := List.length_eq_zero_iff.1 (by omega)
    rw [many_nil, many_nil]
  | n + 1, 0, l, _, hm => by
    obtain rfl : l = [] := List.length_eq_zero_iff.1 (by omega)
    rw [many_nil, many_nil]
  | n + 1, m + 1, l, hn, hm => by
    unfold many
    by_cases hl : l = []
    · simp [hl]
    · simp only [if_neg hl]
      cases h : f l with
      | none => rfl
      | some r =>
        have := hf l r.1 r.2 h
        simp only [Option.bind_some]
        rw [many_fuel hf n m r.2 (by omega) (by omega)]
theorem manyR_cons {α : Type} {f : List Int → Option (α × List Int)} (hf : Shr f) (l : List Int) (hl : l ≠ []) : manyR f l = (f l).bind fun r => (manyR f r.2).map fun s => (r.1 :: s.1, s.2) := by
  unfold manyR
  obtain ⟨n, hn⟩ : ∃ n, l.length = n + 1 := ⟨l.length - 1, by have := List.length_pos_iff.2 hl; omega⟩
  rw [hn]
  show (if l = [] then _ else _) = _
  rw [if_neg hl]
  cases h : f l with
  | none => rfl
  | some r =>
    have := hf l r.1 r.2 h
    simp only [Option.bind_some]
    rw [many_fuel hf n r.2.length r.2 (by omega) (Nat.le_refl _)]
/-- what was gathered so far -/
def Acc {α : Type} (f : List Int → Option (α × List Int)) (st0 : Option (List Int)) (d : List α) (st : Option (List Int)) : Prop :=
  match st0 with
  | none => st = none
  | some l0 => match st with
    | none => manyR f l0 = none
    | some l => manyR f l0 = (manyR f l).map fun s => (d ++ s.1, s.2)
theorem Acc.start {α : Type} (f : List Int → Option (α × List Int)) (st : Option (List Int)) : Acc f st [] st := by
  cases st with
  | none => rfl
  | some l => simp [Acc]
theorem Acc.step {α : Type} {f : List Int → Option (α × List Int)} {st0 st' : Option (List Int)} {d : List α} {x : α} {l : List Int} (hf : Shr f) (h : Acc f st0 d (some l)) (hs : Stp f (some l) x st') (hl : l ≠ []) : Acc f st0 (d ++ [x]) st' := by
  cases st0 with
  | none => cases h
  | some l0 =>
    unfold Acc at h
    simp only at h
    rw [manyR_cons hf l hl] at h
    unfold Stp at hs
    simp only at hs
    cases hq : f l with
    | none =>
      rw [hq] at hs h
      obtain rfl : st' = none := hs
      simpa [Acc] using h
    | some r =>
      obtain ⟨y, l'⟩ := r
      rw [hq] at hs h
      obtain ⟨rfl, rfl⟩ := hs
      simp only [Option.bind_some, Option.map_map] at h
      show manyR f l0 = _
      rw [h]
      congr 1
      funext s
      simp
theorem Acc.done {α : Type} {f : List Int → Option (α × List Int)} {st0 st : Option (List Int)} {d : List α} (h : Acc f st0 d st) (he : st = none ∨ st = some []) : Stp (manyR f) st0 d st := by
  cases st0 with
  | none => exact h
  | some l0 =>
    rcases he with rfl | rfl
    · have h : manyR f l0 = none := h
      simp [Stp, h]
    · have h : manyR f l0 = (manyR f []).map fun s => (d ++ s.1, s.2) := h
      rw [show manyR f [] = some ([], []) from many_nil f 0] at h
      simp [Stp, h]
theorem one?_shr : Shr one? := by
  intro l x l' h
  cases l with
  | nil => cases h
  | cons a t => simp [one?] at h; obtain ⟨_, rfl⟩ := h; simp
theorem text?_shr : Shr text? := by
  intro l x l' h
  unfold text? gt at h
  by_cases hf : full l = true
  · rw [if_pos hf] at h
    have := full_len l hf
    by_cases hu : utf (sb (gbs l)) = true
    · rw [if_pos hu] at h
      simp only [if_true, Option.some.injEq, Prod.mk.injEq] at h
      obtain ⟨_, rfl⟩ := h
      rw [List.length_drop, Int.toNat_natCast]
      omega
    · rw [if_neg hu] at h
      simp at h
  · rw [if_neg hf] at h
    simp at h
theorem bind_shr {α β : Type} {f : List Int → Option (α × List Int)} {g : α → List Int → Option (β × List Int)} (hf : Shr f) (hg : ∀ x l y l', g x l = some (y, l') → l'.length ≤ l.length) : Shr (bindR f g) := by
  intro l y l' h
  unfold bindR at h
  cases hq : f l with
  | none => rw [hq] at h; cases h
  | some r =>
    rw [hq] at h
    have h1 := hf l r.1 r.2 hq
    have h2 := hg r.1 r.2 y l' h
    omega
theorem sub?_shr : Shr sub? := by
  refine bind_shr text?_shr (fun f l y l' h => ?_)
  refine Nat.le_of_lt (bind_shr one?_shr (fun o l y l' h => ?_) l y l' h)
  unfold bindR mustR at h
  split at h
  · simp [pureR] at h
    rw [h.2]
    exact Nat.le_refl _
  · cases h
theorem stp_len {α : Type} {f : List Int → Option (α × List Int)} (hf : Shr f) {l l' : List Int} {x : α} (h : Stp f (some l) x (some l')) : l'.length < l.length := by
  unfold Stp at h
  simp only at h
  cases hq : f l with
  | none => rw [hq] at h; cases h
  | some r =>
    obtain ⟨y, l2⟩ := r
    rw [hq] at h
    obtain ⟨_, e⟩ := h
    cases e
    exact hf l y l' hq
def list? {α : Type} (f : List Int → Option (α × List Int)) : List Int → Option (List α × List Int) := bindR (manyR f) fun d => bindR (mustR (mc d.length)) fun _ => pureR d
/-- how long the loop goes on at most -/
def mlen (R : Nat) (w : World) : Nat := match w.cell? ⟨R, 20, none⟩ with
  | some .nilIface => match w.cell? ⟨R, 19, none⟩ with
    | some (.slice _ n _) => n + 1
    | _ => 0
  | _ => 0
theorem mlen_some {w0 w : World} {R : Nat} {X : Nat → Prop} {l : List Int} (h : RSX w0 w R X (some l)) : mlen R w = l.length + 1 := by
  obtain ⟨_, _, bv, l', E, hr, hb, _, _, hst⟩ := h
  obtain ⟨ao, cap, rfl, _⟩ := hb.form
  rcases hst with ⟨e, rfl⟩ | ⟨e, _⟩
  · cases e
    unfold mlen
    rw [hr.2.2.1, hr.1]
  · cases e
theorem mlen_none {w0 w : World} {R : Nat} {X : Nat → Prop} (h : RSX w0 w R X none) : mlen R w = 0 := by
  obtain ⟨_, _, bv, l', E, hr, hb, _, _, hst⟩ := h
  rcases hst with ⟨e, _⟩ | ⟨_, d, n, _, he⟩
  · cases e
  · obtain ⟨t, x, rfl⟩ := he.iface
    unfold mlen
    rw [hr.2.2.1]
theorem RSX.err {w0 w : World} {R : Nat} {X : Nat → Prop} {st : Option (List Int)} (h : RSX w0 w R X st) : (∃ l, st = some l ∧ w.cell? ⟨R, 20, none⟩ = some .nilIface) ∨ (st = none ∧ ∃ t x, w.cell? ⟨R, 20, none⟩ = some (.iface t x)) := by
  obtain ⟨_, _, bv, l', E, hr, hb, _, _, hst⟩ := h
  rcases hst with ⟨e, rfl⟩ | ⟨e, d, n, _, he⟩
  · exact .inl ⟨l', e, hr.2.2.1⟩
  · obtain ⟨t, x, rfl⟩ := he.iface
    exact .inr ⟨e, t, x, hr.2.2.1⟩
/-- a row of one's own grows: the reader stays -/
theorem RSX.grown {w0 w w' : World} {R : Nat} {X : Nat → Prop} {st : Option (List Int)} {row : Option Nat} (h : RSX w0 w R X st) (hg : w.grownBy w' row) (hX : ∀ g, row = some g → X g) (hR : row ≠ some R) (h0 : ∀ g, row = some g → w0.heap.size ≤ g) : RSX w0 w' R X st := by
  obtain ⟨hXX, ⟨x, hd⟩, bv, l, E, ⟨r1, r2, r3, r4⟩, hb, hw, hR0, hst⟩ := h
  have hblk : w'.heap[R]? = w.heap[R]? := hg.block R (cell_lt hd) (fun e => hR e.symm)
  have hc : ∀ j, w'.cell? ⟨R, j, none⟩ = w.cell? ⟨R, j, none⟩ := fun j => World.cell?_of_block hblk
  have hf : ∀ j, w'.frozen? ⟨R, j, none⟩ = w.frozen? ⟨R, j, none⟩ := fun j => World.frozen?_of_block hblk
  refine ⟨xs_grow hXX hg.size, ⟨x, (hc 1).trans hd⟩, bv, l, E, ⟨(hc 19).trans r1, (hf 19).trans r2, (hc 20).trans r3, (hf 20).trans r4⟩, hb, ⟨hg.os.trans hw.os, hg.tape.trans hw.tape, hg.output.trans hw.output, Nat.le_trans hw.size hg.size, fun k hk => (hg.block k (Nat.lt_of_lt_of_le hk hw.size) (fun e => by have := h0 k e.symm; omega)).trans (hw.block k hk)⟩, hR0, ?_⟩
  have key : ∀ {d : Nat} {v : Value} {n : Int}, ErO w X d v n → ErO w' X d v n := by
    intro d
    induction d with
    | zero => intro v n h; exact h
    | succ d ih =>
      rintro v n ⟨b, u, h1, hR, h2, h3⟩
      exact ⟨b, u, h1, hR, (World.cell?_of_block (a := ⟨b, 1, none⟩) (hg.block b (cell_lt h2) (fun e => hR (hX b e.symm)))).trans h2, ih h3⟩
  rcases hst with h | ⟨h, d, n, hd, he⟩
  · exact .inl h
  · exact .inr ⟨h, d, n, hd, key he⟩
theorem BX.grown {R : Nat} {may : Nat → Prop} {a b c : World} {row : Option Nat} (h : BX R may a b) (hg : b.grownBy c row) (hrow : ∀ g, row = some g → a.heap.size ≤ g) (hR : R < a.heap.size) : BX R may a c := by
  have hblk : c.heap[R]? = b.heap[R]? := hg.block R (Nat.lt_of_lt_of_le hR h.size) (fun e => by have := hrow R e.symm; omega)
  exact h.trans' ⟨hg.os, hg.tape, hg.output, hg.size, fun k hk _ => hg.block k (Nat.lt_of_lt_of_le hk h.size) (fun e => by have := hrow k e.symm; omega), fun j _ => World.cell?_of_block hblk, fun j => World.frozen?_of_block hblk⟩
theorem Pk.grown {w w' : World} {R : Nat} {p : Pkv} {row : Option Nat} (h : Pk w R p) (hg : w.grownBy w' row) (hR : row ≠ some R) : Pk w' R p := fun j hj => by
  have hblk : w'.heap[R]? = w.heap[R]? := hg.block R (cell_lt (h 0 (by omega)).1) (fun e => hR e.symm)
  exact ⟨(World.cell?_of_block hblk).trans (h j hj).1, (World.frozen?_of_block hblk).trans (h j hj).2⟩
/-- append, at a step of a region that draws its order -/
theorem step_append_run {w : World} {ops : Array Oper} {o : Oper} {a : Act} {K : Act → World → Prop} {Q : Exit → Act → World → Prop} {E : Prop} {Z : Value → World → Prop} (hgd : o.guard = none) (s x : Operand) (t : TypeId)
    (ho : o.op = .call { callee := .builtin .append, args := #[s, x], argTypes := #[t, t] }) (v vx : Value) (hs : a.eval s = v) (hx : a.eval x = vx)
    (hr : ∃ v' w', (Builtin.append_ #[t, t] o.type #[v, vx]).run Tryz.prog w = .ok v' w' ∧ Z v' w') (h : ∀ v' w', Z v' w' → K (a.put o.dst v') w') :
    if Region.wanted o (yielded ops a.tmps) = true then Oper.wp Tryz.prog o a w K Q else E := by
  have hw : Region.wanted o (yielded ops a.tmps) = true := by simp [Region.wanted, hgd]
  rw [if_pos hw]
  obtain ⟨v', w', hr, h2⟩ := hr
  unfold Oper.wp execOp
  simp only [ho, resolve, invoke, builtin, Sem.run_bind, Sem.run_pure, Result.andThen_ok, List.map_toArray, List.map_cons, List.map_nil, hs, hx, hr]
  exact h v' w' h2
end Go.Proofs.YtoocdfgjkeheaaaGreatDoor.K
/- Proved here: packet.connectFlags tells a Connect's flags, and whether they may be. Helper contracts. -/
namespace Go.Proofs.YtoocdfgjkeheaaaGreatDoor.K
open Go.RowKit
set_option maxRecDepth 100000

abbrev opKCfl0 : Oper := { dst := some 22, op := Op.fieldAddr 30 (Operand.tmp 1) 12, type := 0, pos := "packet.go:133", after := #[], guard := none }
abbrev opKCfl1 : Oper := { dst := some 23, op := Op.load 26 (Operand.tmp 22), type := 26, pos := "packet.go:133", after := #[{ on := 0, ground := Ground.data }], guard := none }
abbrev opKCfl2 : Oper := { dst := some 24, op := Op.call { callee := Callee.builtin Builtin.len, args := #[Operand.tmp 23], argTypes := #[26] }, type := 3, pos := "packet.go:133", after := #[{ on := 1, ground := Ground.data }], guard := none }
abbrev opKCfl3 : Oper := { dst := some 25, op := Op.binOp BinOp.gtr 3 (Operand.tmp 24) (Operand.const (Value.int IntKind.i64 0)) 3, type := 4, pos := "packet.go:133", after := #[{ on := 2, ground := Ground.data }], guard := none }
abbrev opKCfl4 : Oper := { dst := some 27, op := Op.fieldAddr 30 (Operand.tmp 1) 13, type := 0, pos := "packet.go:133", after := #[], guard := none }
abbrev opKCfl5 : Oper := { dst := some 28, op := Op.load 26 (Operand.tmp 27), type := 26, pos := "packet.go:133", after := #[{ on := 5, ground := Ground.data }], guard := none }
abbrev opKCfl6 : Oper := { dst := some 29, op := Op.call { callee := Callee.builtin Builtin.len, args := #[Operand.tmp 28], argTypes := #[26] }, type := 3, pos := "packet.go:133", after := #[{ on := 6, ground := Ground.data }], guard := none }
abbrev opKCfl7 : Oper := { dst := some 30, op := Op.binOp BinOp.gtr 3 (Operand.tmp 29) (Operand.const (Value.int IntKind.i64 0)) 3, type := 4, pos := "packet.go:133", after := #[{ on := 7, ground := Ground.data }], guard := none }
abbrev opKCfl8 : Oper := { dst := some 33, op := Op.fieldAddr 30 (Operand.tmp 1) 9, type := 0, pos := "packet.go:133", after := #[], guard := none }
abbrev opKCfl9 : Oper := { dst := some 34, op := Op.load 4 (Operand.tmp 33), type := 4, pos := "packet.go:133", after := #[{ on := 11, ground := Ground.data }], guard := none }
abbrev opKCfl10 : Oper := { dst := some 26, op := Op.call { callee := Callee.value (Operand.func 85), args := #[Operand.tmp 25, Operand.const (Value.int IntKind.i64 128)], argTypes := #[4, 3] }, type := 3, pos := "packet.go:133", after := #[{ on := 3, ground := Ground.data }], guard := none }
abbrev opKCfl11 : Oper := { dst := some 31, op := Op.call { callee := Callee.value (Operand.func 85), args := #[Operand.tmp 30, Operand.const (Value.int IntKind.i64 64)], argTypes := #[4, 3] }, type := 3, pos := "packet.go:133", after := #[{ on := 8, ground := Ground.data }, { on := 4, ground := Ground.chain }], guard := none }
abbrev opKCfl12 : Oper := { dst := some 32, op := Op.binOp BinOp.or 3 (Operand.tmp 26) (Operand.tmp 31) 3, type := 3, pos := "packet.go:133", after := #[{ on := 4, ground := Ground.data }, { on := 9, ground := Ground.data }], guard := none }
abbrev opKCfl13 : Oper := { dst := some 35, op := Op.call { callee := Callee.value (Operand.func 85), args := #[Operand.tmp 34, Operand.const (Value.int IntKind.i64 2)], argTypes := #[4, 3] }, type := 3, pos := "packet.go:133", after := #[{ on := 12, ground := Ground.data }, { on := 9, ground := Ground.chain }], guard := none }
abbrev opKCfl14 : Oper := { dst := some 36, op := Op.binOp BinOp.or 3 (Operand.tmp 32) (Operand.tmp 35) 3, type := 3, pos := "packet.go:133", after := #[{ on := 10, ground := Ground.data }, { on := 13, ground := Ground.data }], guard := none }
abbrev opKCfl15 : Oper := { dst := some 2, op := Op.assign (Operand.tmp 36), type := 3, pos := "packet.go:133", after := #[{ on := 14, ground := Ground.data }, { on := 13, ground := Ground.chain }, { on := 0, ground := Ground.phase }, { on := 1, ground := Ground.phase }, { on := 2, ground := Ground.phase }, { on := 3, ground := Ground.phase }, { on := 4, ground := Ground.phase }, { on := 5, ground := Ground.phase }, { on := 6, ground := Ground.phase }, { on := 7, ground := Ground.phase }, { on := 8, ground := Ground.phase }, { on := 9, ground := Ground.phase }, { on := 10, ground := Ground.phase }, { on := 11, ground := Ground.phase }, { on := 12, ground := Ground.phase }, { on := 13, ground := Ground.phase }, { on := 14, ground := Ground.phase }], guard := none }
abbrev opKCfl16 : Oper := { dst := some 50, op := Op.move (Operand.tmp 2), type := 3, pos := "packet.go:136", after := #[], guard := none }
abbrev opKCfl17 : Oper := { dst := some 51, op := Op.fieldAddr 73 (Operand.tmp 5) 3, type := 0, pos := "packet.go:136", after := #[], guard := none }
abbrev opKCfl18 : Oper := { dst := some 52, op := Op.load 4 (Operand.tmp 51), type := 4, pos := "packet.go:136", after := #[{ on := 1, ground := Ground.data }], guard := none }
abbrev opKCfl19 : Oper := { dst := some 55, op := Op.fieldAddr 73 (Operand.tmp 5) 2, type := 0, pos := "packet.go:136", after := #[], guard := none }
abbrev opKCfl20 : Oper := { dst := some 56, op := Op.load 3 (Operand.tmp 55), type := 3, pos := "packet.go:136", after := #[{ on := 5, ground := Ground.data }], guard := none }
abbrev opKCfl21 : Oper := { dst := some 57, op := Op.binOp BinOp.shl 3 (Operand.tmp 56) (Operand.const (Value.int IntKind.u64 3)) 54, type := 3, pos := "packet.go:136", after := #[{ on := 6, ground := Ground.data }], guard := none }
abbrev opKCfl22 : Oper := { dst := some 53, op := Op.call { callee := Callee.value (Operand.func 85), args := #[Operand.tmp 52, Operand.const (Value.int IntKind.i64 32)], argTypes := #[4, 3] }, type := 3, pos := "packet.go:136", after := #[{ on := 2, ground := Ground.data }], guard := none }
abbrev opKCfl23 : Oper := { dst := some 54, op := Op.binOp BinOp.or 3 (Operand.const (Value.int IntKind.i64 4)) (Operand.tmp 53) 3, type := 3, pos := "packet.go:136", after := #[{ on := 3, ground := Ground.data }], guard := none }
abbrev opKCfl24 : Oper := { dst := some 58, op := Op.binOp BinOp.or 3 (Operand.tmp 54) (Operand.tmp 57) 3, type := 3, pos := "packet.go:136", after := #[{ on := 4, ground := Ground.data }, { on := 7, ground := Ground.data }], guard := none }
abbrev opKCfl25 : Oper := { dst := some 59, op := Op.binOp BinOp.or 3 (Operand.tmp 50) (Operand.tmp 58) 3, type := 3, pos := "packet.go:136", after := #[{ on := 0, ground := Ground.data }, { on := 8, ground := Ground.data }], guard := none }
abbrev opKCfl26 : Oper := { dst := some 2, op := Op.assign (Operand.tmp 59), type := 3, pos := "packet.go:136", after := #[{ on := 9, ground := Ground.data }, { on := 3, ground := Ground.chain }, { on := 0, ground := Ground.phase }, { on := 1, ground := Ground.phase }, { on := 2, ground := Ground.phase }, { on := 3, ground := Ground.phase }, { on := 4, ground := Ground.phase }, { on := 5, ground := Ground.phase }, { on := 6, ground := Ground.phase }, { on := 7, ground := Ground.phase }, { on := 8, ground := Ground.phase }, { on := 9, ground := Ground.phase }], guard := none }

/-- a will's fields, as the walk tells them -/
structure Wv where
  topic : ByteArray
  payload : ByteArray
  qos : Int
  retain : Bool
  props : Sl
def Wv.cells (u : Wv) : List Value := [.string u.topic, .string u.payload, .int .i64 u.qos, .bool u.retain, u.props.val]
def wcs (ws : List Wv) : List Value := ws.flatMap Wv.cells
/-- a row of cells, read through a slice: s cells each -/
def Rw (w : World) (t : Sl) (s : Nat) (vs : List Value) : Prop := vs.length = t.n * s ∧ (t.n ≤ t.cap ∧ t.cap ≤ maxLen) ∧ (t.n = 0 ∨ ∃ b off, t.ao = some ⟨b, off, none⟩ ∧ ∀ j, j < vs.length → w.cell? ⟨b, off + j, none⟩ = vs[j]?)
theorem Rw.below {w w' : World} {t : Sl} {s : Nat} {vs : List Value} (h : Rw w t s vs) (hb : Below w.heap.size w w') : Rw w' t s vs := by
  obtain ⟨h1, h2, h3⟩ := h
  refine ⟨h1, h2, ?_⟩
  rcases h3 with h3 | ⟨b, off, e, hc⟩
  · exact .inl h3
  · refine .inr ⟨b, off, e, fun j hj => ?_⟩
    have := hc j hj
    rw [List.getElem?_eq_getElem hj] at this
    rw [hb.cell (p := ⟨b, off + j, none⟩) (cell_lt this), List.getElem?_eq_getElem hj]
    exact this
theorem wcs_length (ws : List Wv) : (wcs ws).length = ws.length * 5 := by
  induction ws with
  | nil => rfl
  | cons u us ih => unfold wcs at *; simp only [List.flatMap_cons, List.length_append, ih, List.length_cons, Wv.cells, List.length_nil]; omega
theorem wcs_get (ws : List Wv) : ∀ (i : Nat) (u : Wv), ws[i]? = some u → ∀ j, j < 5 → (wcs ws)[i * 5 + j]? = u.cells[j]? := by
  induction ws with
  | nil => intro i u h; simp at h
  | cons v us ih =>
    intro i u h j hj
    cases i with
    | zero =>
      simp at h
      subst h
      unfold wcs
      rw [List.flatMap_cons, Nat.zero_mul, Nat.zero_add, List.getElem?_append_left (by simp [Wv.cells]; omega)]
    | succ i =>
      simp at h
      have := ih i u h j hj
      unfold wcs at *
      rw [List.flatMap_cons, List.getElem?_append_right (by simp [Wv.cells]; omega), ← this]
      congr 1
      simp [Wv.cells]
      omega
/-- one will's cells -/
theorem Rw.will {w : World} {t : Sl} {ws : List Wv} (h : Rw w t 5 (wcs ws)) (i : Nat) (u : Wv) (hu : ws[i]? = some u) : ∃ b off, t.ao = some ⟨b, off, none⟩ ∧ w.cell? ⟨b, off + i * 5, none⟩ = some (.string u.topic) ∧ w.cell? ⟨b, off + i * 5 + 1, none⟩ = some (.string u.payload) ∧ w.cell? ⟨b, off + i * 5 + 2, none⟩ = some (.int .i64 u.qos) ∧ w.cell? ⟨b, off + i * 5 + 3, none⟩ = some (.bool u.retain) ∧ w.cell? ⟨b, off + i * 5 + 4, none⟩ = some u.props.val := by
  obtain ⟨h1, h2, h3⟩ := h
  have hi : i < ws.length := (List.getElem?_eq_some_iff.1 hu).1
  rw [wcs_length] at h1
  rcases h3 with h3 | ⟨b, off, e, hc⟩
  · omega
  · refine ⟨b, off, e, ?_⟩
    have k : ∀ j, j < 5 → w.cell? ⟨b, off + (i * 5 + j), none⟩ = u.cells[j]? := fun j hj => (hc (i * 5 + j) (by rw [wcs_length]; omega)).trans (wcs_get ws i u hu j hj)
    exact ⟨k 0 (by omega), (by have := k 1 (by omega); rw [← Nat.add_assoc] at this; exact this), (by have := k 2 (by omega); rw [← Nat.add_assoc] at this; exact this), (by have := k 3 (by omega); rw [← Nat.add_assoc] at this; exact this), (by have := k 4 (by omega); rw [← Nat.add_assoc] at this; exact this)⟩
/-- a Connect's flags -/
def cstep (f : Int) (u : Wv) : Int := bits .or .i64 f (bits .or .i64 (bits .or .i64 4 (fv u.retain 32)) (IntKind.i64.wrap (u.qos * 8)))
def cfl0 (nu np : Nat) (clean : Bool) : Int := bits .or .i64 (bits .or .i64 (fv (decide (0 < nu)) 128) (fv (decide (0 < np)) 64)) (fv clean 2)
def cfl (nu np : Nat) (clean : Bool) (ws : List Wv) : Int := ws.foldl cstep (cfl0 nu np clean)
def cok0 (nw nu np : Nat) : Bool := decide (nw ≤ 1) && decide (nu ≤ 1) && decide (np ≤ 1)
def cok (nu np : Nat) (ws : List Wv) : Bool := cok0 ws.length nu np && ws.all fun u => mq u.qos
set_option maxHeartbeats 4000000 in
theorem connectFlags_any (p : Pkv) (ws : List Wv) (w : World) (h : Rw w p.wills 5 (wcs ws)) (hu : p.user.n ≤ maxLen) (hp : p.pass.n ≤ maxLen) : Calls Tryz.prog 137 #[p.val] w fun e w' => e = .returned (.tuple #[.int .i64 (cfl p.user.n p.pass.n p.clean ws), .bool (cok p.user.n p.pass.n ws)]) ∧ Below w.heap.size w w' := by
  obtain ⟨kind, dup, qos, retain, topic, id, payload, ⟨a1, n1, c1⟩, client, clean, keep, ⟨a2, n2, c2⟩, ⟨a3, n3, c3⟩, ⟨a4, n4, c4⟩, code, session, ⟨a5, n5, c5⟩, ⟨a6, n6, c6⟩, ⟨a7, n7, c7⟩⟩ := p
  simp only at h hu hp
  dsimp only [Pkv.val, Sl.val]
  have hn : ws.length = n2 := by have := h.1; rw [wcs_length] at this; simp only at this; omega
  have hcap := h.2.1
  simp only at hcap
  unfold maxLen at hu hp hcap
  have HR := hide h
  clear h
  by_cases l1 : n2 ≤ 1
  · by_cases l2 : n3 ≤ 1
    · go_enter Tryz.func137, Tryz.ntmps137
      go_wp2_with fail
      refine wp_region_noPanic ?_
      refine wp_region_held_drew (S := (fun w' => w'.cell? ⟨w.heap.size, 12, none⟩ = some (.slice a3 n3 c3) ∧ w'.cell? ⟨w.heap.size, 13, none⟩ = some (.slice a4 n4 c4) ∧ w'.cell? ⟨w.heap.size, 9, none⟩ = some (.bool clean))) (by kernel_rfl) (by simp) (fun hHeld => ?_)
      refine wpAnyH_take (i := 0) (oi := opKCfl0) (v := ?v13) rfl (by kernel_rfl) (by kernel_rfl) (by kernel_rfl) (fun _ _ _ h => h) (Or.inl ⟨by rfl, ?hy13⟩) (by assumption) ?rest13
      case hy13 => (intro w hSw; (try dsimp only at hSw); go_simp; (try rw [if_pos (by omega)]); (try with_reducible rfl))
      simp only [Act.put, List.setIfInBounds_toArray, List.set_cons_zero, List.set_cons_succ]
      refine wpAnyH_take (i := 1) (oi := opKCfl1) (v := ?v14) rfl (by kernel_rfl) (by kernel_rfl) (by kernel_rfl) (fun _ _ _ h => h) (Or.inl ⟨by rfl, ?hy14⟩) (by assumption) ?rest14
      case hy14 => (intro w hSw; (try dsimp only at hSw); go_simp; (try rw [if_pos (by omega)]); (try with_reducible rfl))
      simp only [Act.put, List.setIfInBounds_toArray, List.set_cons_zero, List.set_cons_succ]
      refine wpAnyH_take (i := 2) (oi := opKCfl2) (v := ?v15) rfl (by kernel_rfl) (by kernel_rfl) (by kernel_rfl) (fun _ _ _ h => h) (Or.inl ⟨by rfl, ?hy15⟩) (by assumption) ?rest15
      case hy15 => (intro w hSw; (try dsimp only at hSw); go_simp; (try rw [if_pos (by omega)]); (try with_reducible rfl))
      simp only [Act.put, List.setIfInBounds_toArray, List.set_cons_zero, List.set_cons_succ]
      refine wpAnyH_take (i := 3) (oi := opKCfl3) (v := ?v16) rfl (by kernel_rfl) (by kernel_rfl) (by kernel_rfl) (fun _ _ _ h => h) (Or.inl ⟨by rfl, ?hy16⟩) (by assumption) ?rest16
      case hy16 => (intro w hSw; (try dsimp only at hSw); go_simp; (try rw [if_pos (by omega)]); (try with_reducible rfl))
      simp only [Act.put, List.setIfInBounds_toArray, List.set_cons_zero, List.set_cons_succ]
      refine wpAnyH_take (i := 5) (oi := opKCfl4) (v := ?v17) rfl (by kernel_rfl) (by kernel_rfl) (by kernel_rfl) (fun _ _ _ h => h) (Or.inl ⟨by rfl, ?hy17⟩) (by assumption) ?rest17
      case hy17 => (intro w hSw; (try dsimp only at hSw); go_simp; (try rw [if_pos (by omega)]); (try with_reducible rfl))
      simp only [Act.put, List.setIfInBounds_toArray, List.set_cons_zero, List.set_cons_succ]
      refine wpAnyH_take (i := 6) (oi := opKCfl5) (v := ?v18) rfl (by kernel_rfl) (by kernel_rfl) (by kernel_rfl) (fun _ _ _ h => h) (Or.inl ⟨by rfl, ?hy18⟩) (by assumption) ?rest18
      case hy18 => (intro w hSw; (try dsimp only at hSw); go_simp; (try rw [if_pos (by omega)]); (try with_reducible rfl))
      simp only [Act.put, List.setIfInBounds_toArray, List.set_cons_zero, List.set_cons_succ]
      refine wpAnyH_take (i := 7) (oi := opKCfl6) (v := ?v19) rfl (by kernel_rfl) (by kernel_rfl) (by kernel_rfl) (fun _ _ _ h => h) (Or.inl ⟨by rfl, ?hy19⟩) (by assumption) ?rest19
      case hy19 => (intro w hSw; (try dsimp only at hSw); go_simp; (try rw [if_pos (by omega)]); (try with_reducible rfl))
      simp only [Act.put, List.setIfInBounds_toArray, List.set_cons_zero, List.set_cons_succ]
      refine wpAnyH_take (i := 8) (oi := opKCfl7) (v := ?v20) rfl (by kernel_rfl) (by kernel_rfl) (by kernel_rfl) (fun _ _ _ h => h) (Or.inl ⟨by rfl, ?hy20⟩) (by assumption) ?rest20
      case hy20 => (intro w hSw; (try dsimp only at hSw); go_simp; (try rw [if_pos (by omega)]); (try with_reducible rfl))
      simp only [Act.put, List.setIfInBounds_toArray, List.set_cons_zero, List.set_cons_succ]
      refine wpAnyH_take (i := 11) (oi := opKCfl8) (v := ?v21) rfl (by kernel_rfl) (by kernel_rfl) (by kernel_rfl) (fun _ _ _ h => h) (Or.inl ⟨by rfl, ?hy21⟩) (by assumption) ?rest21
      case hy21 => (intro w hSw; (try dsimp only at hSw); go_simp; (try rw [if_pos (by omega)]); (try with_reducible rfl))
      simp only [Act.put, List.setIfInBounds_toArray, List.set_cons_zero, List.set_cons_succ]
      refine wpAnyH_take (i := 12) (oi := opKCfl9) (v := ?v22) rfl (by kernel_rfl) (by kernel_rfl) (by kernel_rfl) (fun _ _ _ h => h) (Or.inl ⟨by rfl, ?hy22⟩) (by assumption) ?rest22
      case hy22 => (intro w hSw; (try dsimp only at hSw); go_simp; (try rw [if_pos (by omega)]); (try with_reducible rfl))
      simp only [Act.put, List.setIfInBounds_toArray, List.set_cons_zero, List.set_cons_succ]
      refine wpAnyH_ready (rs := [4]) (by kernel_rfl) (by simp) ?_
      refine AllReadyH.cons (o := opKCfl10) rfl (fun K hK => ?_) AllReadyH.nil
      go_simp
      refine (flag_is _ _ _).mono ?_
      rintro e w2 ⟨rfl, hw2⟩
      obtain rfl := hw2.symm
      clear hw2
      refine hK.out _ _ (by simp) (fun hHeld => ?_)
      clear hK K
      refine wpAnyH_ready (rs := [9]) (by kernel_rfl) (by simp) ?_
      refine AllReadyH.cons (o := opKCfl11) rfl (fun K hK => ?_) AllReadyH.nil
      go_simp
      refine (flag_is _ _ _).mono ?_
      rintro e w2 ⟨rfl, hw2⟩
      obtain rfl := hw2.symm
      clear hw2
      refine hK.out _ _ (by simp) (fun hHeld => ?_)
      clear hK K
      refine wpAnyH_take (i := 10) (oi := opKCfl12) (v := ?v23) rfl (by kernel_rfl) (by kernel_rfl) (by kernel_rfl) (fun _ _ _ h => h) (Or.inl ⟨by rfl, ?hy23⟩) (by assumption) ?rest23
      case hy23 => (intro w hSw; (try dsimp only at hSw); go_simp; (try rw [if_pos (by omega)]); (try with_reducible rfl))
      simp only [Act.put, List.setIfInBounds_toArray, List.set_cons_zero, List.set_cons_succ]
      refine wpAnyH_ready (rs := [13]) (by kernel_rfl) (by simp) ?_
      refine AllReadyH.cons (o := opKCfl13) rfl (fun K hK => ?_) AllReadyH.nil
      go_simp
      refine (flag_is _ _ _).mono ?_
      rintro e w2 ⟨rfl, hw2⟩
      obtain rfl := hw2.symm
      clear hw2
      refine hK.out _ _ (by simp) (fun hHeld => ?_)
      clear hK K
      refine wpAnyH_take (i := 14) (oi := opKCfl14) (v := ?v24) rfl (by kernel_rfl) (by kernel_rfl) (by kernel_rfl) (fun _ _ _ h => h) (Or.inl ⟨by rfl, ?hy24⟩) (by assumption) ?rest24
      case hy24 => (intro w hSw; (try dsimp only at hSw); go_simp; (try rw [if_pos (by omega)]); (try with_reducible rfl))
      simp only [Act.put, List.setIfInBounds_toArray, List.set_cons_zero, List.set_cons_succ]
      refine wpAnyH_ready (rs := [15]) (by kernel_rfl) (by simp) ?_
      refine AllReadyH.cons (o := opKCfl15) rfl (fun K hK => ?_) AllReadyH.nil
      go_simp
      refine hK.out _ _ (by simp) (fun hHeld => ?_)
      clear hK K
      refine wpAnyH_done (by kernel_rfl) ?_ _
      refine NoPanic.normal ?_
      go_wp2
      go_loopw [2, 3, 40] (fun f0 o0 i0 wr => ∃ (k : Nat) (bb : Bool) (F : Int), k ≤ n2 ∧ i0 = .int .i64 k ∧ f0 = .int .i64 F ∧ o0 = .bool bb ∧ Hid (F = (ws.take k).foldl cstep (cfl0 n3 n4 clean)) ∧ Hid (bb = (cok0 n2 n3 n4 && (ws.take k).all fun u => mq u.qos)) ∧ Below w.heap.size w wr) (fun _ _ i0 _ => n2 - (intOf i0).toNat)
      case atStart => exact ⟨0, _, _, Nat.zero_le _, rfl, rfl, rfl, rfl, by show _ = _; simp [cok0, l1, l2]; omega, by go_grown⟩
      case round =>
        obtain ⟨k, bb, F, hk, rfl, rfl, rfl, HF, HO, hbel⟩ := hrel
        by_cases hkn : k = n2
        · subst hkn
          have e1 : ws.take k = ws := List.take_of_length_le (by omega)
          have HB := hide hbel
          clear hbel
          go_wp2
          go_returns
          rw [e1] at HF HO
          exact ⟨by rw [unhide HF, unhide HO, ← hn]; rfl, unhide HB⟩
        · have hlt : k < ws.length := by omega
          obtain ⟨u, hu⟩ : ∃ u, ws[k]? = some u := ⟨_, List.getElem?_eq_getElem hlt⟩
          have e1 : ws.take (k + 1) = ws.take k ++ [u] := by rw [List.take_add_one, hu]; rfl
          obtain ⟨b, off, ha, t0, t1, t2, t3, t4⟩ := ((unhide HR).below (hbel)).will k u hu
          simp only at ha
          subst ha
          have hF : Hid (cstep F u = (ws.take (k + 1)).foldl cstep (cfl0 n3 n4 clean)) := by show _ = _; rw [e1, List.foldl_append, unhide HF]; rfl
          have hO : (cok0 n2 n3 n4 && (ws.take (k + 1)).all fun u => mq u.qos) = (bb && mq u.qos) := by rw [e1, List.all_append, unhide HO]; simp [Bool.and_assoc]
          have HO2 := hide hO
          clear hO
          have HB2 : Hid (Below w.heap.size w (wr.alloc (.cells #[.string u.topic, .string u.payload, .int .i64 u.qos, .bool u.retain, u.props.val] 73)).drew) := (hbel.alloc hbel.size _).drew
          cases bb
          · go_wp2_with fail
            refine wp_region_noPanic ?_
            refine wp_region_held_drew (S := (fun w' => w'.cell? ⟨wr.heap.size, 3, none⟩ = some (.bool u.retain) ∧ w'.cell? ⟨wr.heap.size, 2, none⟩ = some (.int .i64 u.qos))) (by kernel_rfl) (by simp) (fun hHeld => ?_)
            refine wpAnyH_take (i := 0) (oi := opKCfl16) (v := ?v25) rfl (by kernel_rfl) (by kernel_rfl) (by kernel_rfl) (fun _ _ _ h => h) (Or.inl ⟨by rfl, ?hy25⟩) (by assumption) ?rest25
            case hy25 => (intro w hSw; (try dsimp only at hSw); go_simp; (try rw [if_pos (by omega)]); (try with_reducible rfl))
            simp only [Act.put, List.setIfInBounds_toArray, List.set_cons_zero, List.set_cons_succ]
            refine wpAnyH_take (i := 1) (oi := opKCfl17) (v := ?v26) rfl (by kernel_rfl) (by kernel_rfl) (by kernel_rfl) (fun _ _ _ h => h) (Or.inl ⟨by rfl, ?hy26⟩) (by assumption) ?rest26
            case hy26 => (intro w hSw; (try dsimp only at hSw); go_simp; (try rw [if_pos (by omega)]); (try with_reducible rfl))
            simp only [Act.put, List.setIfInBounds_toArray, List.set_cons_zero, List.set_cons_succ]
            refine wpAnyH_take (i := 2) (oi := opKCfl18) (v := ?v27) rfl (by kernel_rfl) (by kernel_rfl) (by kernel_rfl) (fun _ _ _ h => h) (Or.inl ⟨by rfl, ?hy27⟩) (by assumption) ?rest27
            case hy27 => (intro w hSw; (try dsimp only at hSw); go_simp; (try rw [if_pos (by omega)]); (try with_reducible rfl))
            simp only [Act.put, List.setIfInBounds_toArray, List.set_cons_zero, List.set_cons_succ]
            refine wpAnyH_take (i := 5) (oi := opKCfl19) (v := ?v28) rfl (by kernel_rfl) (by kernel_rfl) (by kernel_rfl) (fun _ _ _ h => h) (Or.inl ⟨by rfl, ?hy28⟩) (by assumption) ?rest28
            case hy28 => (intro w hSw; (try dsimp only at hSw); go_simp; (try rw [if_pos (by omega)]); (try with_reducible rfl))
            simp only [Act.put, List.setIfInBounds_toArray, List.set_cons_zero, List.set_cons_succ]
            refine wpAnyH_take (i := 6) (oi := opKCfl20) (v := ?v29) rfl (by kernel_rfl) (by kernel_rfl) (by kernel_rfl) (fun _ _ _ h => h) (Or.inl ⟨by rfl, ?hy29⟩) (by assumption) ?rest29
            case hy29 => (intro w hSw; (try dsimp only at hSw); go_simp; (try rw [if_pos (by omega)]); (try with_reducible rfl))
            simp only [Act.put, List.setIfInBounds_toArray, List.set_cons_zero, List.set_cons_succ]
            refine wpAnyH_take (i := 7) (oi := opKCfl21) (v := ?v30) rfl (by kernel_rfl) (by kernel_rfl) (by kernel_rfl) (fun _ _ _ h => h) (Or.inl ⟨by rfl, ?hy30⟩) (by assumption) ?rest30
            case hy30 => (intro w hSw; (try dsimp only at hSw); go_simp; (try rw [if_pos (by omega)]); (try with_reducible rfl))
            simp only [Act.put, List.setIfInBounds_toArray, List.set_cons_zero, List.set_cons_succ]
            refine wpAnyH_ready (rs := [3]) (by kernel_rfl) (by simp) ?_
            refine AllReadyH.cons (o := opKCfl22) rfl (fun K hK => ?_) AllReadyH.nil
            go_simp
            refine (flag_is _ _ _).mono ?_
            rintro e w2 ⟨rfl, hw2⟩
            obtain rfl := hw2.symm
            clear hw2
            refine hK.out _ _ (by simp) (fun hHeld => ?_)
            clear hK K
            refine wpAnyH_take (i := 4) (oi := opKCfl23) (v := ?v31) rfl (by kernel_rfl) (by kernel_rfl) (by kernel_rfl) (fun _ _ _ h => h) (Or.inl ⟨by rfl, ?hy31⟩) (by assumption) ?rest31
            case hy31 => (intro w hSw; (try dsimp only at hSw); go_simp; (try rw [if_pos (by omega)]); (try with_reducible rfl))
            simp only [Act.put, List.setIfInBounds_toArray, List.set_cons_zero, List.set_cons_succ]
            refine wpAnyH_take (i := 8) (oi := opKCfl24) (v := ?v32) rfl (by kernel_rfl) (by kernel_rfl) (by kernel_rfl) (fun _ _ _ h => h) (Or.inl ⟨by rfl, ?hy32⟩) (by assumption) ?rest32
            case hy32 => (intro w hSw; (try dsimp only at hSw); go_simp; (try rw [if_pos (by omega)]); (try with_reducible rfl))
            simp only [Act.put, List.setIfInBounds_toArray, List.set_cons_zero, List.set_cons_succ]
            refine wpAnyH_take (i := 9) (oi := opKCfl25) (v := ?v33) rfl (by kernel_rfl) (by kernel_rfl) (by kernel_rfl) (fun _ _ _ h => h) (Or.inl ⟨by rfl, ?hy33⟩) (by assumption) ?rest33
            case hy33 => (intro w hSw; (try dsimp only at hSw); go_simp; (try rw [if_pos (by omega)]); (try with_reducible rfl))
            simp only [Act.put, List.setIfInBounds_toArray, List.set_cons_zero, List.set_cons_succ]
            refine wpAnyH_ready (rs := [10]) (by kernel_rfl) (by simp) ?_
            refine AllReadyH.cons (o := opKCfl26) rfl (fun K hK => ?_) AllReadyH.nil
            go_simp
            refine hK.out _ _ (by simp) (fun hHeld => ?_)
            clear hK K
            refine wpAnyH_done (by kernel_rfl) ?_ _
            refine NoPanic.normal ?_
            go_wp2
            go_roundw
            case rel => exact ⟨k + 1, false, _, by omega, by go_num, rfl, rfl, hF, by show _ = _; rw [unhide HO2]; rfl, unhide HB2⟩
            case measure => simp [intOf]; omega
          · go_wp2_with fail
            refine (mayQoS_is u.qos _ rfl _).mono ?_
            rintro e w1 ⟨rfl, hw1⟩
            obtain rfl := hw1.symm
            clear hw1
            go_wp2_with fail
            refine wp_region_noPanic ?_
            refine wp_region_held_drew (S := (fun w' => w'.cell? ⟨wr.heap.size, 3, none⟩ = some (.bool u.retain) ∧ w'.cell? ⟨wr.heap.size, 2, none⟩ = some (.int .i64 u.qos))) (by kernel_rfl) (by simp) (fun hHeld => ?_)
            refine wpAnyH_take (i := 0) (oi := opKCfl16) (v := ?v34) rfl (by kernel_rfl) (by kernel_rfl) (by kernel_rfl) (fun _ _ _ h => h) (Or.inl ⟨by rfl, ?hy34⟩) (by assumption) ?rest34
            case hy34 => (intro w hSw; (try dsimp only at hSw); go_simp; (try rw [if_pos (by omega)]); (try with_reducible rfl))
            simp only [Act.put, List.setIfInBounds_toArray, List.set_cons_zero, List.set_cons_succ]
            refine wpAnyH_take (i := 1) (oi := opKCfl17) (v := ?v35) rfl (by kernel_rfl) (by kernel_rfl) (by kernel_rfl) (fun _ _ _ h => h) (Or.inl ⟨by rfl, ?hy35⟩) (by assumption) ?rest35
            case hy35 => (intro w hSw; (try dsimp only at hSw); go_simp; (try rw [if_pos (by omega)]); (try with_reducible rfl))
            simp only [Act.put, List.setIfInBounds_toArray, List.set_cons_zero, List.set_cons_succ]
            refine wpAnyH_take (i := 2) (oi := opKCfl18) (v := ?v36) rfl (by kernel_rfl) (by kernel_rfl) (by kernel_rfl) (fun _ _ _ h => h) (Or.inl ⟨by rfl, ?hy36⟩) (by assumption) ?rest36
            case hy36 => (intro w hSw; (try dsimp only at hSw); go_simp; (try rw [if_pos (by omega)]); (try with_reducible rfl))
            simp only [Act.put, List.setIfInBounds_toArray, List.set_cons_zero, List.set_cons_succ]
            refine wpAnyH_take (i := 5) (oi := opKCfl19) (v := ?v37) rfl (by kernel_rfl) (by kernel_rfl) (by kernel_rfl) (fun _ _ _ h => h) (Or.inl ⟨by rfl, ?hy37⟩) (by assumption) ?rest37
            case hy37 => (intro w hSw; (try dsimp only at hSw); go_simp; (try rw [if_pos (by omega)]); (try with_reducible rfl))
            simp only [Act.put, List.setIfInBounds_toArray, List.set_cons_zero, List.set_cons_succ]
            refine wpAnyH_take (i := 6) (oi := opKCfl20) (v := ?v38) rfl (by kernel_rfl) (by kernel_rfl) (by kernel_rfl) (fun _ _ _ h => h) (Or.inl ⟨by rfl, ?hy38⟩) (by assumption) ?rest38
            case hy38 => (intro w hSw; (try dsimp only at hSw); go_simp; (try rw [if_pos (by omega)]); (try with_reducible rfl))
            simp only [Act.put, List.setIfInBounds_toArray, List.set_cons_zero, List.set_cons_succ]
            refine wpAnyH_take (i := 7) (oi := opKCfl21) (v := ?v39) rfl (by kernel_rfl) (by kernel_rfl) (by kernel_rfl) (fun _ _ _ h => h) (Or.inl ⟨by rfl, ?hy39⟩) (by assumption) ?rest39
            case hy39 => (intro w hSw; (try dsimp only at hSw); go_simp; (try rw [if_pos (by omega)]); (try with_reducible rfl))
            simp only [Act.put, List.setIfInBounds_toArray, List.set_cons_zero, List.set_cons_succ]
            refine wpAnyH_ready (rs := [3]) (by kernel_rfl) (by simp) ?_
            refine AllReadyH.cons (o := opKCfl22) rfl (fun K hK => ?_) AllReadyH.nil
            go_simp
            refine (flag_is _ _ _).mono ?_
            rintro e w2 ⟨rfl, hw2⟩
            obtain rfl := hw2.symm
            clear hw2
            refine hK.out _ _ (by simp) (fun hHeld => ?_)
            clear hK K
            refine wpAnyH_take (i := 4) (oi := opKCfl23) (v := ?v40) rfl (by kernel_rfl) (by kernel_rfl) (by kernel_rfl) (fun _ _ _ h => h) (Or.inl ⟨by rfl, ?hy40⟩) (by assumption) ?rest40
            case hy40 => (intro w hSw; (try dsimp only at hSw); go_simp; (try rw [if_pos (by omega)]); (try with_reducible rfl))
            simp only [Act.put, List.setIfInBounds_toArray, List.set_cons_zero, List.set_cons_succ]
            refine wpAnyH_take (i := 8) (oi := opKCfl24) (v := ?v41) rfl (by kernel_rfl) (by kernel_rfl) (by kernel_rfl) (fun _ _ _ h => h) (Or.inl ⟨by rfl, ?hy41⟩) (by assumption) ?rest41
            case hy41 => (intro w hSw; (try dsimp only at hSw); go_simp; (try rw [if_pos (by omega)]); (try with_reducible rfl))
            simp only [Act.put, List.setIfInBounds_toArray, List.set_cons_zero, List.set_cons_succ]
            refine wpAnyH_take (i := 9) (oi := opKCfl25) (v := ?v42) rfl (by kernel_rfl) (by kernel_rfl) (by kernel_rfl) (fun _ _ _ h => h) (Or.inl ⟨by rfl, ?hy42⟩) (by assumption) ?rest42
            case hy42 => (intro w hSw; (try dsimp only at hSw); go_simp; (try rw [if_pos (by omega)]); (try with_reducible rfl))
            simp only [Act.put, List.setIfInBounds_toArray, List.set_cons_zero, List.set_cons_succ]
            refine wpAnyH_ready (rs := [10]) (by kernel_rfl) (by simp) ?_
            refine AllReadyH.cons (o := opKCfl26) rfl (fun K hK => ?_) AllReadyH.nil
            go_simp
            refine hK.out _ _ (by simp) (fun hHeld => ?_)
            clear hK K
            refine wpAnyH_done (by kernel_rfl) ?_ _
            refine NoPanic.normal ?_
            go_wp2
            go_roundw
            case rel => exact ⟨k + 1, mq u.qos, _, by omega, by go_num, rfl, rfl, hF, by show _ = _; rw [unhide HO2]; rfl, unhide HB2⟩
            case measure => simp [intOf]; omega
    · go_enter Tryz.func137, Tryz.ntmps137
      go_wp2_with fail
      refine wp_region_noPanic ?_
      refine wp_region_held_drew (S := (fun w' => w'.cell? ⟨w.heap.size, 12, none⟩ = some (.slice a3 n3 c3) ∧ w'.cell? ⟨w.heap.size, 13, none⟩ = some (.slice a4 n4 c4) ∧ w'.cell? ⟨w.heap.size, 9, none⟩ = some (.bool clean))) (by kernel_rfl) (by simp) (fun hHeld => ?_)
      refine wpAnyH_take (i := 0) (oi := opKCfl0) (v := ?v43) rfl (by kernel_rfl) (by kernel_rfl) (by kernel_rfl) (fun _ _ _ h => h) (Or.inl ⟨by rfl, ?hy43⟩) (by assumption) ?rest43
      case hy43 => (intro w hSw; (try dsimp only at hSw); go_simp; (try rw [if_pos (by omega)]); (try with_reducible rfl))
      simp only [Act.put, List.setIfInBounds_toArray, List.set_cons_zero, List.set_cons_succ]
      refine wpAnyH_take (i := 1) (oi := opKCfl1) (v := ?v44) rfl (by kernel_rfl) (by kernel_rfl) (by kernel_rfl) (fun _ _ _ h => h) (Or.inl ⟨by rfl, ?hy44⟩) (by assumption) ?rest44
      case hy44 => (intro w hSw; (try dsimp only at hSw); go_simp; (try rw [if_pos (by omega)]); (try with_reducible rfl))
      simp only [Act.put, List.setIfInBounds_toArray, List.set_cons_zero, List.set_cons_succ]
      refine wpAnyH_take (i := 2) (oi := opKCfl2) (v := ?v45) rfl (by kernel_rfl) (by kernel_rfl) (by kernel_rfl) (fun _ _ _ h => h) (Or.inl ⟨by rfl, ?hy45⟩) (by assumption) ?rest45
      case hy45 => (intro w hSw; (try dsimp only at hSw); go_simp; (try rw [if_pos (by omega)]); (try with_reducible rfl))
      simp only [Act.put, List.setIfInBounds_toArray, List.set_cons_zero, List.set_cons_succ]
      refine wpAnyH_take (i := 3) (oi := opKCfl3) (v := ?v46) rfl (by kernel_rfl) (by kernel_rfl) (by kernel_rfl) (fun _ _ _ h => h) (Or.inl ⟨by rfl, ?hy46⟩) (by assumption) ?rest46
      case hy46 => (intro w hSw; (try dsimp only at hSw); go_simp; (try rw [if_pos (by omega)]); (try with_reducible rfl))
      simp only [Act.put, List.setIfInBounds_toArray, List.set_cons_zero, List.set_cons_succ]
      refine wpAnyH_take (i := 5) (oi := opKCfl4) (v := ?v47) rfl (by kernel_rfl) (by kernel_rfl) (by kernel_rfl) (fun _ _ _ h => h) (Or.inl ⟨by rfl, ?hy47⟩) (by assumption) ?rest47
      case hy47 => (intro w hSw; (try dsimp only at hSw); go_simp; (try rw [if_pos (by omega)]); (try with_reducible rfl))
      simp only [Act.put, List.setIfInBounds_toArray, List.set_cons_zero, List.set_cons_succ]
      refine wpAnyH_take (i := 6) (oi := opKCfl5) (v := ?v48) rfl (by kernel_rfl) (by kernel_rfl) (by kernel_rfl) (fun _ _ _ h => h) (Or.inl ⟨by rfl, ?hy48⟩) (by assumption) ?rest48
      case hy48 => (intro w hSw; (try dsimp only at hSw); go_simp; (try rw [if_pos (by omega)]); (try with_reducible rfl))
      simp only [Act.put, List.setIfInBounds_toArray, List.set_cons_zero, List.set_cons_succ]
      refine wpAnyH_take (i := 7) (oi := opKCfl6) (v := ?v49) rfl (by kernel_rfl) (by kernel_rfl) (by kernel_rfl) (fun _ _ _ h => h) (Or.inl ⟨by rfl, ?hy49⟩) (by assumption) ?rest49
      case hy49 => (intro w hSw; (try dsimp only at hSw); go_simp; (try rw [if_pos (by omega)]); (try with_reducible rfl))
      simp only [Act.put, List.setIfInBounds_toArray, List.set_cons_zero, List.set_cons_succ]
      refine wpAnyH_take (i := 8) (oi := opKCfl7) (v := ?v50) rfl (by kernel_rfl) (by kernel_rfl) (by kernel_rfl) (fun _ _ _ h => h) (Or.inl ⟨by rfl, ?hy50⟩) (by assumption) ?rest50
      case hy50 => (intro w hSw; (try dsimp only at hSw); go_simp; (try rw [if_pos (by omega)]); (try with_reducible rfl))
      simp only [Act.put, List.setIfInBounds_toArray, List.set_cons_zero, List.set_cons_succ]
      refine wpAnyH_take (i := 11) (oi := opKCfl8) (v := ?v51) rfl (by kernel_rfl) (by kernel_rfl) (by kernel_rfl) (fun _ _ _ h => h) (Or.inl ⟨by rfl, ?hy51⟩) (by assumption) ?rest51
      case hy51 => (intro w hSw; (try dsimp only at hSw); go_simp; (try rw [if_pos (by omega)]); (try with_reducible rfl))
      simp only [Act.put, List.setIfInBounds_toArray, List.set_cons_zero, List.set_cons_succ]
      refine wpAnyH_take (i := 12) (oi := opKCfl9) (v := ?v52) rfl (by kernel_rfl) (by kernel_rfl) (by kernel_rfl) (fun _ _ _ h => h) (Or.inl ⟨by rfl, ?hy52⟩) (by assumption) ?rest52
      case hy52 => (intro w hSw; (try dsimp only at hSw); go_simp; (try rw [if_pos (by omega)]); (try with_reducible rfl))
      simp only [Act.put, List.setIfInBounds_toArray, List.set_cons_zero, List.set_cons_succ]
      refine wpAnyH_ready (rs := [4]) (by kernel_rfl) (by simp) ?_
      refine AllReadyH.cons (o := opKCfl10) rfl (fun K hK => ?_) AllReadyH.nil
      go_simp
      refine (flag_is _ _ _).mono ?_
      rintro e w2 ⟨rfl, hw2⟩
      obtain rfl := hw2.symm
      clear hw2
      refine hK.out _ _ (by simp) (fun hHeld => ?_)
      clear hK K
      refine wpAnyH_ready (rs := [9]) (by kernel_rfl) (by simp) ?_
      refine AllReadyH.cons (o := opKCfl11) rfl (fun K hK => ?_) AllReadyH.nil
      go_simp
      refine (flag_is _ _ _).mono ?_
      rintro e w2 ⟨rfl, hw2⟩
      obtain rfl := hw2.symm
      clear hw2
      refine hK.out _ _ (by simp) (fun hHeld => ?_)
      clear hK K
      refine wpAnyH_take (i := 10) (oi := opKCfl12) (v := ?v53) rfl (by kernel_rfl) (by kernel_rfl) (by kernel_rfl) (fun _ _ _ h => h) (Or.inl ⟨by rfl, ?hy53⟩) (by assumption) ?rest53
      case hy53 => (intro w hSw; (try dsimp only at hSw); go_simp; (try rw [if_pos (by omega)]); (try with_reducible rfl))
      simp only [Act.put, List.setIfInBounds_toArray, List.set_cons_zero, List.set_cons_succ]
      refine wpAnyH_ready (rs := [13]) (by kernel_rfl) (by simp) ?_
      refine AllReadyH.cons (o := opKCfl13) rfl (fun K hK => ?_) AllReadyH.nil
      go_simp
      refine (flag_is _ _ _).mono ?_
      rintro e w2 ⟨rfl, hw2⟩
      obtain rfl := hw2.symm
      clear hw2
      refine hK.out _ _ (by simp) (fun hHeld => ?_)
      clear hK K
      refine wpAnyH_take (i := 14) (oi := opKCfl14) (v := ?v54) rfl (by kernel_rfl) (by kernel_rfl) (by kernel_rfl) (fun _ _ _ h => h) (Or.inl ⟨by rfl, ?hy54⟩) (by assumption) ?rest54
      case hy54 => (intro w hSw; (try dsimp only at hSw); go_simp; (try rw [if_pos (by omega)]); (try with_reducible rfl))
      simp only [Act.put, List.setIfInBounds_toArray, List.set_cons_zero, List.set_cons_succ]
      refine wpAnyH_ready (rs := [15]) (by kernel_rfl) (by simp) ?_
      refine AllReadyH.cons (o := opKCfl15) rfl (fun K hK => ?_) AllReadyH.nil
      go_simp
      refine hK.out _ _ (by simp) (fun hHeld => ?_)
      clear hK K
      refine wpAnyH_done (by kernel_rfl) ?_ _
      refine NoPanic.normal ?_
      go_wp2
      go_loopw [2, 3, 40] (fun f0 o0 i0 wr => ∃ (k : Nat) (bb : Bool) (F : Int), k ≤ n2 ∧ i0 = .int .i64 k ∧ f0 = .int .i64 F ∧ o0 = .bool bb ∧ Hid (F = (ws.take k).foldl cstep (cfl0 n3 n4 clean)) ∧ Hid (bb = (cok0 n2 n3 n4 && (ws.take k).all fun u => mq u.qos)) ∧ Below w.heap.size w wr) (fun _ _ i0 _ => n2 - (intOf i0).toNat)
      case atStart => exact ⟨0, _, _, Nat.zero_le _, rfl, rfl, rfl, rfl, by show _ = _; simp [cok0, l2], by go_grown⟩
      case round =>
        obtain ⟨k, bb, F, hk, rfl, rfl, rfl, HF, HO, hbel⟩ := hrel
        by_cases hkn : k = n2
        · subst hkn
          have e1 : ws.take k = ws := List.take_of_length_le (by omega)
          have HB := hide hbel
          clear hbel
          go_wp2
          go_returns
          rw [e1] at HF HO
          exact ⟨by rw [unhide HF, unhide HO, ← hn]; rfl, unhide HB⟩
        · have hlt : k < ws.length := by omega
          obtain ⟨u, hu⟩ : ∃ u, ws[k]? = some u := ⟨_, List.getElem?_eq_getElem hlt⟩
          have e1 : ws.take (k + 1) = ws.take k ++ [u] := by rw [List.take_add_one, hu]; rfl
          obtain ⟨b, off, ha, t0, t1, t2, t3, t4⟩ := ((unhide HR).below (hbel)).will k u hu
          simp only at ha
          subst ha
          have hF : Hid (cstep F u = (ws.take (k + 1)).foldl cstep (cfl0 n3 n4 clean)) := by show _ = _; rw [e1, List.foldl_append, unhide HF]; rfl
          have hO : (cok0 n2 n3 n4 && (ws.take (k + 1)).all fun u => mq u.qos) = (bb && mq u.qos) := by rw [e1, List.all_append, unhide HO]; simp [Bool.and_assoc]
          have HO2 := hide hO
          clear hO
          have HB2 : Hid (Below w.heap.size w (wr.alloc (.cells #[.string u.topic, .string u.payload, .int .i64 u.qos, .bool u.retain, u.props.val] 73)).drew) := (hbel.alloc hbel.size _).drew
          cases bb
          · go_wp2_with fail
            refine wp_region_noPanic ?_
            refine wp_region_held_drew (S := (fun w' => w'.cell? ⟨wr.heap.size, 3, none⟩ = some (.bool u.retain) ∧ w'.cell? ⟨wr.heap.size, 2, none⟩ = some (.int .i64 u.qos))) (by kernel_rfl) (by simp) (fun hHeld => ?_)
            refine wpAnyH_take (i := 0) (oi := opKCfl16) (v := ?v55) rfl (by kernel_rfl) (by kernel_rfl) (by kernel_rfl) (fun _ _ _ h => h) (Or.inl ⟨by rfl, ?hy55⟩) (by assumption) ?rest55
            case hy55 => (intro w hSw; (try dsimp only at hSw); go_simp; (try rw [if_pos (by omega)]); (try with_reducible rfl))
            simp only [Act.put, List.setIfInBounds_toArray, List.set_cons_zero, List.set_cons_succ]
            refine wpAnyH_take (i := 1) (oi := opKCfl17) (v := ?v56) rfl (by kernel_rfl) (by kernel_rfl) (by kernel_rfl) (fun _ _ _ h => h) (Or.inl ⟨by rfl, ?hy56⟩) (by assumption) ?rest56
            case hy56 => (intro w hSw; (try dsimp only at hSw); go_simp; (try rw [if_pos (by omega)]); (try with_reducible rfl))
            simp only [Act.put, List.setIfInBounds_toArray, List.set_cons_zero, List.set_cons_succ]
            refine wpAnyH_take (i := 2) (oi := opKCfl18) (v := ?v57) rfl (by kernel_rfl) (by kernel_rfl) (by kernel_rfl) (fun _ _ _ h => h) (Or.inl ⟨by rfl, ?hy57⟩) (by assumption) ?rest57
            case hy57 => (intro w hSw; (try dsimp only at hSw); go_simp; (try rw [if_pos (by omega)]); (try with_reducible rfl))
            simp only [Act.put, List.setIfInBounds_toArray, List.set_cons_zero, List.set_cons_succ]
            refine wpAnyH_take (i := 5) (oi := opKCfl19) (v := ?v58) rfl (by kernel_rfl) (by kernel_rfl) (by kernel_rfl) (fun _ _ _ h => h) (Or.inl ⟨by rfl, ?hy58⟩) (by assumption) ?rest58
            case hy58 => (intro w hSw; (try dsimp only at hSw); go_simp; (try rw [if_pos (by omega)]); (try with_reducible rfl))
            simp only [Act.put, List.setIfInBounds_toArray, List.set_cons_zero, List.set_cons_succ]
            refine wpAnyH_take (i := 6) (oi := opKCfl20) (v := ?v59) rfl (by kernel_rfl) (by kernel_rfl) (by kernel_rfl) (fun _ _ _ h => h) (Or.inl ⟨by rfl, ?hy59⟩) (by assumption) ?rest59
            case hy59 => (intro w hSw; (try dsimp only at hSw); go_simp; (try rw [if_pos (by omega)]); (try with_reducible rfl))
            simp only [Act.put, List.setIfInBounds_toArray, List.set_cons_zero, List.set_cons_succ]
            refine wpAnyH_take (i := 7) (oi := opKCfl21) (v := ?v60) rfl (by kernel_rfl) (by kernel_rfl) (by kernel_rfl) (fun _ _ _ h => h) (Or.inl ⟨by rfl, ?hy60⟩) (by assumption) ?rest60
            case hy60 => (intro w hSw; (try dsimp only at hSw); go_simp; (try rw [if_pos (by omega)]); (try with_reducible rfl))
            simp only [Act.put, List.setIfInBounds_toArray, List.set_cons_zero, List.set_cons_succ]
            refine wpAnyH_ready (rs := [3]) (by kernel_rfl) (by simp) ?_
            refine AllReadyH.cons (o := opKCfl22) rfl (fun K hK => ?_) AllReadyH.nil
            go_simp
            refine (flag_is _ _ _).mono ?_
            rintro e w2 ⟨rfl, hw2⟩
            obtain rfl := hw2.symm
            clear hw2
            refine hK.out _ _ (by simp) (fun hHeld => ?_)
            clear hK K
            refine wpAnyH_take (i := 4) (oi := opKCfl23) (v := ?v61) rfl (by kernel_rfl) (by kernel_rfl) (by kernel_rfl) (fun _ _ _ h => h) (Or.inl ⟨by rfl, ?hy61⟩) (by assumption) ?rest61
            case hy61 => (intro w hSw; (try dsimp only at hSw); go_simp; (try rw [if_pos (by omega)]); (try with_reducible rfl))
            simp only [Act.put, List.setIfInBounds_toArray, List.set_cons_zero, List.set_cons_succ]
            refine wpAnyH_take (i := 8) (oi := opKCfl24) (v := ?v62) rfl (by kernel_rfl) (by kernel_rfl) (by kernel_rfl) (fun _ _ _ h => h) (Or.inl ⟨by rfl, ?hy62⟩) (by assumption) ?rest62
            case hy62 => (intro w hSw; (try dsimp only at hSw); go_simp; (try rw [if_pos (by omega)]); (try with_reducible rfl))
            simp only [Act.put, List.setIfInBounds_toArray, List.set_cons_zero, List.set_cons_succ]
            refine wpAnyH_take (i := 9) (oi := opKCfl25) (v := ?v63) rfl (by kernel_rfl) (by kernel_rfl) (by kernel_rfl) (fun _ _ _ h => h) (Or.inl ⟨by rfl, ?hy63⟩) (by assumption) ?rest63
            case hy63 => (intro w hSw; (try dsimp only at hSw); go_simp; (try rw [if_pos (by omega)]); (try with_reducible rfl))
            simp only [Act.put, List.setIfInBounds_toArray, List.set_cons_zero, List.set_cons_succ]
            refine wpAnyH_ready (rs := [10]) (by kernel_rfl) (by simp) ?_
            refine AllReadyH.cons (o := opKCfl26) rfl (fun K hK => ?_) AllReadyH.nil
            go_simp
            refine hK.out _ _ (by simp) (fun hHeld => ?_)
            clear hK K
            refine wpAnyH_done (by kernel_rfl) ?_ _
            refine NoPanic.normal ?_
            go_wp2
            go_roundw
            case rel => exact ⟨k + 1, false, _, by omega, by go_num, rfl, rfl, hF, by show _ = _; rw [unhide HO2]; rfl, unhide HB2⟩
            case measure => simp [intOf]; omega
          · go_wp2_with fail
            refine (mayQoS_is u.qos _ rfl _).mono ?_
            rintro e w1 ⟨rfl, hw1⟩
            obtain rfl := hw1.symm
            clear hw1
            go_wp2_with fail
            refine wp_region_noPanic ?_
            refine wp_region_held_drew (S := (fun w' => w'.cell? ⟨wr.heap.size, 3, none⟩ = some (.bool u.retain) ∧ w'.cell? ⟨wr.heap.size, 2, none⟩ = some (.int .i64 u.qos))) (by kernel_rfl) (by simp) (fun hHeld => ?_)
            refine wpAnyH_take (i := 0) (oi := opKCfl16) (v := ?v64) rfl (by kernel_rfl) (by kernel_rfl) (by kernel_rfl) (fun _ _ _ h => h) (Or.inl ⟨by rfl, ?hy64⟩) (by assumption) ?rest64
            case hy64 => (intro w hSw; (try dsimp only at hSw); go_simp; (try rw [if_pos (by omega)]); (try with_reducible rfl))
            simp only [Act.put, List.setIfInBounds_toArray, List.set_cons_zero, List.set_cons_succ]
            refine wpAnyH_take (i := 1) (oi := opKCfl17) (v := ?v65) rfl (by kernel_rfl) (by kernel_rfl) (by kernel_rfl) (fun _ _ _ h => h) (Or.inl ⟨by rfl, ?hy65⟩) (by assumption) ?rest65
            case hy65 => (intro w hSw; (try dsimp only at hSw); go_simp; (try rw [if_pos (by omega)]); (try with_reducible rfl))
            simp only [Act.put, List.setIfInBounds_toArray, List.set_cons_zero, List.set_cons_succ]
            refine wpAnyH_take (i := 2) (oi := opKCfl18) (v := ?v66) rfl (by kernel_rfl) (by kernel_rfl) (by kernel_rfl) (fun _ _ _ h => h) (Or.inl ⟨by rfl, ?hy66⟩) (by assumption) ?rest66
            case hy66 => (intro w hSw; (try dsimp only at hSw); go_simp; (try rw [if_pos (by omega)]); (try with_reducible rfl))
            simp only [Act.put, List.setIfInBounds_toArray, List.set_cons_zero, List.set_cons_succ]
            refine wpAnyH_take (i := 5) (oi := opKCfl19) (v := ?v67) rfl (by kernel_rfl) (by kernel_rfl) (by kernel_rfl) (fun _ _ _ h => h) (Or.inl ⟨by rfl, ?hy67⟩) (by assumption) ?rest67
            case hy67 => (intro w hSw; (try dsimp only at hSw); go_simp; (try rw [if_pos (by omega)]); (try with_reducible rfl))
            simp only [Act.put, List.setIfInBounds_toArray, List.set_cons_zero, List.set_cons_succ]
            refine wpAnyH_take (i := 6) (oi := opKCfl20) (v := ?v68) rfl (by kernel_rfl) (by kernel_rfl) (by kernel_rfl) (fun _ _ _ h => h) (Or.inl ⟨by rfl, ?hy68⟩) (by assumption) ?rest68
            case hy68 => (intro w hSw; (try dsimp only at hSw); go_simp; (try rw [if_pos (by omega)]); (try with_reducible rfl))
            simp only [Act.put, List.setIfInBounds_toArray, List.set_cons_zero, List.set_cons_succ]
            refine wpAnyH_take (i := 7) (oi := opKCfl21) (v := ?v69) rfl (by kernel_rfl) (by kernel_rfl) (by kernel_rfl) (fun _ _ _ h => h) (Or.inl ⟨by rfl, ?hy69⟩) (by assumption) ?rest69
            case hy69 => (intro w hSw; (try dsimp only at hSw); go_simp; (try rw [if_pos (by omega)]); (try with_reducible rfl))
            simp only [Act.put, List.setIfInBounds_toArray, List.set_cons_zero, List.set_cons_succ]
            refine wpAnyH_ready (rs := [3]) (by kernel_rfl) (by simp) ?_
            refine AllReadyH.cons (o := opKCfl22) rfl (fun K hK => ?_) AllReadyH.nil
            go_simp
            refine (flag_is _ _ _).mono ?_
            rintro e w2 ⟨rfl, hw2⟩
            obtain rfl := hw2.symm
            clear hw2
            refine hK.out _ _ (by simp) (fun hHeld => ?_)
            clear hK K
            refine wpAnyH_take (i := 4) (oi := opKCfl23) (v := ?v70) rfl (by kernel_rfl) (by kernel_rfl) (by kernel_rfl) (fun _ _ _ h => h) (Or.inl ⟨by rfl, ?hy70⟩) (by assumption) ?rest70
            case hy70 => (intro w hSw; (try dsimp only at hSw); go_simp; (try rw [if_pos (by omega)]); (try with_reducible rfl))
            simp only [Act.put, List.setIfInBounds_toArray, List.set_cons_zero, List.set_cons_succ]
            refine wpAnyH_take (i := 8) (oi := opKCfl24) (v := ?v71) rfl (by kernel_rfl) (by kernel_rfl) (by kernel_rfl) (fun _ _ _ h => h) (Or.inl ⟨by rfl, ?hy71⟩) (by assumption) ?rest71
            case hy71 => (intro w hSw; (try dsimp only at hSw); go_simp; (try rw [if_pos (by omega)]); (try with_reducible rfl))
            simp only [Act.put, List.setIfInBounds_toArray, List.set_cons_zero, List.set_cons_succ]
            refine wpAnyH_take (i := 9) (oi := opKCfl25) (v := ?v72) rfl (by kernel_rfl) (by kernel_rfl) (by kernel_rfl) (fun _ _ _ h => h) (Or.inl ⟨by rfl, ?hy72⟩) (by assumption) ?rest72
            case hy72 => (intro w hSw; (try dsimp only at hSw); go_simp; (try rw [if_pos (by omega)]); (try with_reducible rfl))
            simp only [Act.put, List.setIfInBounds_toArray, List.set_cons_zero, List.set_cons_succ]
            refine wpAnyH_ready (rs := [10]) (by kernel_rfl) (by simp) ?_
            refine AllReadyH.cons (o := opKCfl26) rfl (fun K hK => ?_) AllReadyH.nil
            go_simp
            refine hK.out _ _ (by simp) (fun hHeld => ?_)
            clear hK K
            refine wpAnyH_done (by kernel_rfl) ?_ _
            refine NoPanic.normal ?_
            go_wp2
            go_roundw
            case rel => exact ⟨k + 1, mq u.qos, _, by omega, by go_num, rfl, rfl, hF, by show _ = _; rw [unhide HO2]; rfl, unhide HB2⟩
            case measure => simp [intOf]; omega
  · go_enter Tryz.func137, Tryz.ntmps137
    go_wp2_with fail
    refine wp_region_noPanic ?_
    refine wp_region_held_drew (S := (fun w' => w'.cell? ⟨w.heap.size, 12, none⟩ = some (.slice a3 n3 c3) ∧ w'.cell? ⟨w.heap.size, 13, none⟩ = some (.slice a4 n4 c4) ∧ w'.cell? ⟨w.heap.size, 9, none⟩ = some (.bool clean))) (by kernel_rfl) (by simp) (fun hHeld => ?_)
    refine wpAnyH_take (i := 0) (oi := opKCfl0) (v := ?v73) rfl (by kernel_rfl) (by kernel_rfl) (by kernel_rfl) (fun _ _ _ h => h) (Or.inl ⟨by rfl, ?hy73⟩) (by assumption) ?rest73
    case hy73 => (intro w hSw; (try dsimp only at hSw); go_simp; (try rw [if_pos (by omega)]); (try with_reducible rfl))
    simp only [Act.put, List.setIfInBounds_toArray, List.set_cons_zero, List.set_cons_succ]
    refine wpAnyH_take (i := 1) (oi := opKCfl1) (v := ?v74) rfl (by kernel_rfl) (by kernel_rfl) (by kernel_rfl) (fun _ _ _ h => h) (Or.inl ⟨by rfl, ?hy74⟩) (by assumption) ?rest74
    case hy74 => (intro w hSw; (try dsimp only at hSw); go_simp; (try rw [if_pos (by omega)]); (try with_reducible rfl))
    simp only [Act.put, List.setIfInBounds_toArray, List.set_cons_zero, List.set_cons_succ]
    refine wpAnyH_take (i := 2) (oi := opKCfl2) (v := ?v75) rfl (by kernel_rfl) (by kernel_rfl) (by kernel_rfl) (fun _ _ _ h => h) (Or.inl ⟨by rfl, ?hy75⟩) (by assumption) ?rest75
    case hy75 => (intro w hSw; (try dsimp only at hSw); go_simp; (try rw [if_pos (by omega)]); (try with_reducible rfl))
    simp only [Act.put, List.setIfInBounds_toArray, List.set_cons_zero, List.set_cons_succ]
    refine wpAnyH_take (i := 3) (oi := opKCfl3) (v := ?v76) rfl (by kernel_rfl) (by kernel_rfl) (by kernel_rfl) (fun _ _ _ h => h) (Or.inl ⟨by rfl, ?hy76⟩) (by assumption) ?rest76
    case hy76 => (intro w hSw; (try dsimp only at hSw); go_simp; (try rw [if_pos (by omega)]); (try with_reducible rfl))
    simp only [Act.put, List.setIfInBounds_toArray, List.set_cons_zero, List.set_cons_succ]
    refine wpAnyH_take (i := 5) (oi := opKCfl4) (v := ?v77) rfl (by kernel_rfl) (by kernel_rfl) (by kernel_rfl) (fun _ _ _ h => h) (Or.inl ⟨by rfl, ?hy77⟩) (by assumption) ?rest77
    case hy77 => (intro w hSw; (try dsimp only at hSw); go_simp; (try rw [if_pos (by omega)]); (try with_reducible rfl))
    simp only [Act.put, List.setIfInBounds_toArray, List.set_cons_zero, List.set_cons_succ]
    refine wpAnyH_take (i := 6) (oi := opKCfl5) (v := ?v78) rfl (by kernel_rfl) (by kernel_rfl) (by kernel_rfl) (fun _ _ _ h => h) (Or.inl ⟨by rfl, ?hy78⟩) (by assumption) ?rest78
    case hy78 => (intro w hSw; (try dsimp only at hSw); go_simp; (try rw [if_pos (by omega)]); (try with_reducible rfl))
    simp only [Act.put, List.setIfInBounds_toArray, List.set_cons_zero, List.set_cons_succ]
    refine wpAnyH_take (i := 7) (oi := opKCfl6) (v := ?v79) rfl (by kernel_rfl) (by kernel_rfl) (by kernel_rfl) (fun _ _ _ h => h) (Or.inl ⟨by rfl, ?hy79⟩) (by assumption) ?rest79
    case hy79 => (intro w hSw; (try dsimp only at hSw); go_simp; (try rw [if_pos (by omega)]); (try with_reducible rfl))
    simp only [Act.put, List.setIfInBounds_toArray, List.set_cons_zero, List.set_cons_succ]
    refine wpAnyH_take (i := 8) (oi := opKCfl7) (v := ?v80) rfl (by kernel_rfl) (by kernel_rfl) (by kernel_rfl) (fun _ _ _ h => h) (Or.inl ⟨by rfl, ?hy80⟩) (by assumption) ?rest80
    case hy80 => (intro w hSw; (try dsimp only at hSw); go_simp; (try rw [if_pos (by omega)]); (try with_reducible rfl))
    simp only [Act.put, List.setIfInBounds_toArray, List.set_cons_zero, List.set_cons_succ]
    refine wpAnyH_take (i := 11) (oi := opKCfl8) (v := ?v81) rfl (by kernel_rfl) (by kernel_rfl) (by kernel_rfl) (fun _ _ _ h => h) (Or.inl ⟨by rfl, ?hy81⟩) (by assumption) ?rest81
    case hy81 => (intro w hSw; (try dsimp only at hSw); go_simp; (try rw [if_pos (by omega)]); (try with_reducible rfl))
    simp only [Act.put, List.setIfInBounds_toArray, List.set_cons_zero, List.set_cons_succ]
    refine wpAnyH_take (i := 12) (oi := opKCfl9) (v := ?v82) rfl (by kernel_rfl) (by kernel_rfl) (by kernel_rfl) (fun _ _ _ h => h) (Or.inl ⟨by rfl, ?hy82⟩) (by assumption) ?rest82
    case hy82 => (intro w hSw; (try dsimp only at hSw); go_simp; (try rw [if_pos (by omega)]); (try with_reducible rfl))
    simp only [Act.put, List.setIfInBounds_toArray, List.set_cons_zero, List.set_cons_succ]
    refine wpAnyH_ready (rs := [4]) (by kernel_rfl) (by simp) ?_
    refine AllReadyH.cons (o := opKCfl10) rfl (fun K hK => ?_) AllReadyH.nil
    go_simp
    refine (flag_is _ _ _).mono ?_
    rintro e w2 ⟨rfl, hw2⟩
    obtain rfl := hw2.symm
    clear hw2
    refine hK.out _ _ (by simp) (fun hHeld => ?_)
    clear hK K
    refine wpAnyH_ready (rs := [9]) (by kernel_rfl) (by simp) ?_
    refine AllReadyH.cons (o := opKCfl11) rfl (fun K hK => ?_) AllReadyH.nil
    go_simp
    refine (flag_is _ _ _).mono ?_
    rintro e w2 ⟨rfl, hw2⟩
    obtain rfl := hw2.symm
    clear hw2
    refine hK.out _ _ (by simp) (fun hHeld => ?_)
    clear hK K
    refine wpAnyH_take (i := 10) (oi := opKCfl12) (v := ?v83) rfl (by kernel_rfl) (by kernel_rfl) (by kernel_rfl) (fun _ _ _ h => h) (Or.inl ⟨by rfl, ?hy83⟩) (by assumption) ?rest83
    case hy83 => (intro w hSw; (try dsimp only at hSw); go_simp; (try rw [if_pos (by omega)]); (try with_reducible rfl))
    simp only [Act.put, List.setIfInBounds_toArray, List.set_cons_zero, List.set_cons_succ]
    refine wpAnyH_ready (rs := [13]) (by kernel_rfl) (by simp) ?_
    refine AllReadyH.cons (o := opKCfl13) rfl (fun K hK => ?_) AllReadyH.nil
    go_simp
    refine (flag_is _ _ _).mono ?_
    rintro e w2 ⟨rfl, hw2⟩
    obtain rfl := hw2.symm
    clear hw2
    refine hK.out _ _ (by simp) (fun hHeld => ?_)
    clear hK K
    refine wpAnyH_take (i := 14) (oi := opKCfl14) (v := ?v84) rfl (by kernel_rfl) (by kernel_rfl) (by kernel_rfl) (fun _ _ _ h => h) (Or.inl ⟨by rfl, ?hy84⟩) (by assumption) ?rest84
    case hy84 => (intro w hSw; (try dsimp only at hSw); go_simp; (try rw [if_pos (by omega)]); (try with_reducible rfl))
    simp only [Act.put, List.setIfInBounds_toArray, List.set_cons_zero, List.set_cons_succ]
    refine wpAnyH_ready (rs := [15]) (by kernel_rfl) (by simp) ?_
    refine AllReadyH.cons (o := opKCfl15) rfl (fun K hK => ?_) AllReadyH.nil
    go_simp
    refine hK.out _ _ (by simp) (fun hHeld => ?_)
    clear hK K
    refine wpAnyH_done (by kernel_rfl) ?_ _
    refine NoPanic.normal ?_
    go_wp2
    go_loopw [2, 3, 40] (fun f0 o0 i0 wr => ∃ (k : Nat) (bb : Bool) (F : Int), k ≤ n2 ∧ i0 = .int .i64 k ∧ f0 = .int .i64 F ∧ o0 = .bool bb ∧ Hid (F = (ws.take k).foldl cstep (cfl0 n3 n4 clean)) ∧ Hid (bb = (cok0 n2 n3 n4 && (ws.take k).all fun u => mq u.qos)) ∧ Below w.heap.size w wr) (fun _ _ i0 _ => n2 - (intOf i0).toNat)
    case atStart => exact ⟨0, _, _, Nat.zero_le _, rfl, rfl, rfl, rfl, by show _ = _; simp [cok0, l1], by go_grown⟩
    case round =>
      obtain ⟨k, bb, F, hk, rfl, rfl, rfl, HF, HO, hbel⟩ := hrel
      by_cases hkn : k = n2
      · subst hkn
        have e1 : ws.take k = ws := List.take_of_length_le (by omega)
        have HB := hide hbel
        clear hbel
        go_wp2
        go_returns
        rw [e1] at HF HO
        exact ⟨by rw [unhide HF, unhide HO, ← hn]; rfl, unhide HB⟩
      · have hlt : k < ws.length := by omega
        obtain ⟨u, hu⟩ : ∃ u, ws[k]? = some u := ⟨_, List.getElem?_eq_getElem hlt⟩
        have e1 : ws.take (k + 1) = ws.take k ++ [u] := by rw [List.take_add_one, hu]; rfl
        obtain ⟨b, off, ha, t0, t1, t2, t3, t4⟩ := ((unhide HR).below (hbel)).will k u hu
        simp only at ha
        subst ha
        have hF : Hid (cstep F u = (ws.take (k + 1)).foldl cstep (cfl0 n3 n4 clean)) := by show _ = _; rw [e1, List.foldl_append, unhide HF]; rfl
        have hO : (cok0 n2 n3 n4 && (ws.take (k + 1)).all fun u => mq u.qos) = (bb && mq u.qos) := by rw [e1, List.all_append, unhide HO]; simp [Bool.and_assoc]
        have HO2 := hide hO
        clear hO
        have HB2 : Hid (Below w.heap.size w (wr.alloc (.cells #[.string u.topic, .string u.payload, .int .i64 u.qos, .bool u.retain, u.props.val] 73)).drew) := (hbel.alloc hbel.size _).drew
        cases bb
        · go_wp2_with fail
          refine wp_region_noPanic ?_
          refine wp_region_held_drew (S := (fun w' => w'.cell? ⟨wr.heap.size, 3, none⟩ = some (.bool u.retain) ∧ w'.cell? ⟨wr.heap.size, 2, none⟩ = some (.int .i64 u.qos))) (by kernel_rfl) (by simp) (fun hHeld => ?_)
          refine wpAnyH_take (i := 0) (oi := opKCfl16) (v := ?v85) rfl (by kernel_rfl) (by kernel_rfl) (by kernel_rfl) (fun _ _ _ h => h) (Or.inl ⟨by rfl, ?hy85⟩) (by assumption) ?rest85
          case hy85 => (intro w hSw; (try dsimp only at hSw); go_simp; (try rw [if_pos (by omega)]); (try with_reducible rfl))
          simp only [Act.put, List.setIfInBounds_toArray, List.set_cons_zero, List.set_cons_succ]
          refine wpAnyH_take (i := 1) (oi := opKCfl17) (v := ?v86) rfl (by kernel_rfl) (by kernel_rfl) (by kernel_rfl) (fun _ _ _ h => h) (Or.inl ⟨by rfl, ?hy86⟩) (by assumption) ?rest86
          case hy86 => (intro w hSw; (try dsimp only at hSw); go_simp; (try rw [if_pos (by omega)]); (try with_reducible rfl))
          simp only [Act.put, List.setIfInBounds_toArray, List.set_cons_zero, List.set_cons_succ]
          refine wpAnyH_take (i := 2) (oi := opKCfl18) (v := ?v87) rfl (by kernel_rfl) (by kernel_rfl) (by kernel_rfl) (fun _ _ _ h => h) (Or.inl ⟨by rfl, ?hy87⟩) (by assumption) ?rest87
          case hy87 => (intro w hSw; (try dsimp only at hSw); go_simp; (try rw [if_pos (by omega)]); (try with_reducible rfl))
          simp only [Act.put, List.setIfInBounds_toArray, List.set_cons_zero, List.set_cons_succ]
          refine wpAnyH_take (i := 5) (oi := opKCfl19) (v := ?v88) rfl (by kernel_rfl) (by kernel_rfl) (by kernel_rfl) (fun _ _ _ h => h) (Or.inl ⟨by rfl, ?hy88⟩) (by assumption) ?rest88
          case hy88 => (intro w hSw; (try dsimp only at hSw); go_simp; (try rw [if_pos (by omega)]); (try with_reducible rfl))
          simp only [Act.put, List.setIfInBounds_toArray, List.set_cons_zero, List.set_cons_succ]
          refine wpAnyH_take (i := 6) (oi := opKCfl20) (v := ?v89) rfl (by kernel_rfl) (by kernel_rfl) (by kernel_rfl) (fun _ _ _ h => h) (Or.inl ⟨by rfl, ?hy89⟩) (by assumption) ?rest89
          case hy89 => (intro w hSw; (try dsimp only at hSw); go_simp; (try rw [if_pos (by omega)]); (try with_reducible rfl))
          simp only [Act.put, List.setIfInBounds_toArray, List.set_cons_zero, List.set_cons_succ]
          refine wpAnyH_take (i := 7) (oi := opKCfl21) (v := ?v90) rfl (by kernel_rfl) (by kernel_rfl) (by kernel_rfl) (fun _ _ _ h => h) (Or.inl ⟨by rfl, ?hy90⟩) (by assumption) ?rest90
          case hy90 => (intro w hSw; (try dsimp only at hSw); go_simp; (try rw [if_pos (by omega)]); (try with_reducible rfl))
          simp only [Act.put, List.setIfInBounds_toArray, List.set_cons_zero, List.set_cons_succ]
          refine wpAnyH_ready (rs := [3]) (by kernel_rfl) (by simp) ?_
          refine AllReadyH.cons (o := opKCfl22) rfl (fun K hK => ?_) AllReadyH.nil
          go_simp
          refine (flag_is _ _ _).mono ?_
          rintro e w2 ⟨rfl, hw2⟩
          obtain rfl := hw2.symm
          clear hw2
          refine hK.out _ _ (by simp) (fun hHeld => ?_)
          clear hK K
          refine wpAnyH_take (i := 4) (oi := opKCfl23) (v := ?v91) rfl (by kernel_rfl) (by kernel_rfl) (by kernel_rfl) (fun _ _ _ h => h) (Or.inl ⟨by rfl, ?hy91⟩) (by assumption) ?rest91
          case hy91 => (intro w hSw; (try dsimp only at hSw); go_simp; (try rw [if_pos (by omega)]); (try with_reducible rfl))
          simp only [Act.put, List.setIfInBounds_toArray, List.set_cons_zero, List.set_cons_succ]
          refine wpAnyH_take (i := 8) (oi := opKCfl24) (v := ?v92) rfl (by kernel_rfl) (by kernel_rfl) (by kernel_rfl) (fun _ _ _ h => h) (Or.inl ⟨by rfl, ?hy92⟩) (by assumption) ?rest92
          case hy92 => (intro w hSw; (try dsimp only at hSw); go_simp; (try rw [if_pos (by omega)]); (try with_reducible rfl))
          simp only [Act.put, List.setIfInBounds_toArray, List.set_cons_zero, List.set_cons_succ]
          refine wpAnyH_take (i := 9) (oi := opKCfl25) (v := ?v93) rfl (by kernel_rfl) (by kernel_rfl) (by kernel_rfl) (fun _ _ _ h => h) (Or.inl ⟨by rfl, ?hy93⟩) (by assumption) ?rest93
          case hy93 => (intro w hSw; (try dsimp only at hSw); go_simp; (try rw [if_pos (by omega)]); (try with_reducible rfl))
          simp only [Act.put, List.setIfInBounds_toArray, List.set_cons_zero, List.set_cons_succ]
          refine wpAnyH_ready (rs := [10]) (by kernel_rfl) (by simp) ?_
          refine AllReadyH.cons (o := opKCfl26) rfl (fun K hK => ?_) AllReadyH.nil
          go_simp
          refine hK.out _ _ (by simp) (fun hHeld => ?_)
          clear hK K
          refine wpAnyH_done (by kernel_rfl) ?_ _
          refine NoPanic.normal ?_
          go_wp2
          go_roundw
          case rel => exact ⟨k + 1, false, _, by omega, by go_num, rfl, rfl, hF, by show _ = _; rw [unhide HO2]; rfl, unhide HB2⟩
          case measure => simp [intOf]; omega
        · go_wp2_with fail
          refine (mayQoS_is u.qos _ rfl _).mono ?_
          rintro e w1 ⟨rfl, hw1⟩
          obtain rfl := hw1.symm
          clear hw1
          go_wp2_with fail
          refine wp_region_noPanic ?_
          refine wp_region_held_drew (S := (fun w' => w'.cell? ⟨wr.heap.size, 3, none⟩ = some (.bool u.retain) ∧ w'.cell? ⟨wr.heap.size, 2, none⟩ = some (.int .i64 u.qos))) (by kernel_rfl) (by simp) (fun hHeld => ?_)
          refine wpAnyH_take (i := 0) (oi := opKCfl16) (v := ?v94) rfl (by kernel_rfl) (by kernel_rfl) (by kernel_rfl) (fun _ _ _ h => h) (Or.inl ⟨by rfl, ?hy94⟩) (by assumption) ?rest94
          case hy94 => (intro w hSw; (try dsimp only at hSw); go_simp; (try rw [if_pos (by omega)]); (try with_reducible rfl))
          simp only [Act.put, List.setIfInBounds_toArray, List.set_cons_zero, List.set_cons_succ]
          refine wpAnyH_take (i := 1) (oi := opKCfl17) (v := ?v95) rfl (by kernel_rfl) (by kernel_rfl) (by kernel_rfl) (fun _ _ _ h => h) (Or.inl ⟨by rfl, ?hy95⟩) (by assumption) ?rest95
          case hy95 => (intro w hSw; (try dsimp only at hSw); go_simp; (try rw [if_pos (by omega)]); (try with_reducible rfl))
          simp only [Act.put, List.setIfInBounds_toArray, List.set_cons_zero, List.set_cons_succ]
          refine wpAnyH_take (i := 2) (oi := opKCfl18) (v := ?v96) rfl (by kernel_rfl) (by kernel_rfl) (by kernel_rfl) (fun _ _ _ h => h) (Or.inl ⟨by rfl, ?hy96⟩) (by assumption) ?rest96
          case hy96 => (intro w hSw; (try dsimp only at hSw); go_simp; (try rw [if_pos (by omega)]); (try with_reducible rfl))
          simp only [Act.put, List.setIfInBounds_toArray, List.set_cons_zero, List.set_cons_succ]
          refine wpAnyH_take (i := 5) (oi := opKCfl19) (v := ?v97) rfl (by kernel_rfl) (by kernel_rfl) (by kernel_rfl) (fun _ _ _ h => h) (Or.inl ⟨by rfl, ?hy97⟩) (by assumption) ?rest97
          case hy97 => (intro w hSw; (try dsimp only at hSw); go_simp; (try rw [if_pos (by omega)]); (try with_reducible rfl))
          simp only [Act.put, List.setIfInBounds_toArray, List.set_cons_zero, List.set_cons_succ]
          refine wpAnyH_take (i := 6) (oi := opKCfl20) (v := ?v98) rfl (by kernel_rfl) (by kernel_rfl) (by kernel_rfl) (fun _ _ _ h => h) (Or.inl ⟨by rfl, ?hy98⟩) (by assumption) ?rest98
          case hy98 => (intro w hSw; (try dsimp only at hSw); go_simp; (try rw [if_pos (by omega)]); (try with_reducible rfl))
          simp only [Act.put, List.setIfInBounds_toArray, List.set_cons_zero, List.set_cons_succ]
          refine wpAnyH_take (i := 7) (oi := opKCfl21) (v := ?v99) rfl (by kernel_rfl) (by kernel_rfl) (by kernel_rfl) (fun _ _ _ h => h) (Or.inl ⟨by rfl, ?hy99⟩) (by assumption) ?rest99
          case hy99 => (intro w hSw; (try dsimp only at hSw); go_simp; (try rw [if_pos (by omega)]); (try with_reducible rfl))
          simp only [Act.put, List.setIfInBounds_toArray, List.set_cons_zero, List.set_cons_succ]
          refine wpAnyH_ready (rs := [3]) (by kernel_rfl) (by simp) ?_
          refine AllReadyH.cons (o := opKCfl22) rfl (fun K hK => ?_) AllReadyH.nil
          go_simp
          refine (flag_is _ _ _).mono ?_
          rintro e w2 ⟨rfl, hw2⟩
          obtain rfl := hw2.symm
          clear hw2
          refine hK.out _ _ (by simp) (fun hHeld => ?_)
          clear hK K
          refine wpAnyH_take (i := 4) (oi := opKCfl23) (v := ?v100) rfl (by kernel_rfl) (by kernel_rfl) (by kernel_rfl) (fun _ _ _ h => h) (Or.inl ⟨by rfl, ?hy100⟩) (by assumption) ?rest100
          case hy100 => (intro w hSw; (try dsimp only at hSw); go_simp; (try rw [if_pos (by omega)]); (try with_reducible rfl))
          simp only [Act.put, List.setIfInBounds_toArray, List.set_cons_zero, List.set_cons_succ]
          refine wpAnyH_take (i := 8) (oi := opKCfl24) (v := ?v101) rfl (by kernel_rfl) (by kernel_rfl) (by kernel_rfl) (fun _ _ _ h => h) (Or.inl ⟨by rfl, ?hy101⟩) (by assumption) ?rest101
          case hy101 => (intro w hSw; (try dsimp only at hSw); go_simp; (try rw [if_pos (by omega)]); (try with_reducible rfl))
          simp only [Act.put, List.setIfInBounds_toArray, List.set_cons_zero, List.set_cons_succ]
          refine wpAnyH_take (i := 9) (oi := opKCfl25) (v := ?v102) rfl (by kernel_rfl) (by kernel_rfl) (by kernel_rfl) (fun _ _ _ h => h) (Or.inl ⟨by rfl, ?hy102⟩) (by assumption) ?rest102
          case hy102 => (intro w hSw; (try dsimp only at hSw); go_simp; (try rw [if_pos (by omega)]); (try with_reducible rfl))
          simp only [Act.put, List.setIfInBounds_toArray, List.set_cons_zero, List.set_cons_succ]
          refine wpAnyH_ready (rs := [10]) (by kernel_rfl) (by simp) ?_
          refine AllReadyH.cons (o := opKCfl26) rfl (fun K hK => ?_) AllReadyH.nil
          go_simp
          refine hK.out _ _ (by simp) (fun hHeld => ?_)
          clear hK K
          refine wpAnyH_done (by kernel_rfl) ?_ _
          refine NoPanic.normal ?_
          go_wp2
          go_roundw
          case rel => exact ⟨k + 1, mq u.qos, _, by omega, by go_num, rfl, rfl, hF, by show _ = _; rw [unhide HO2]; rfl, unhide HB2⟩
          case measure => simp [intOf]; omega
end Go.Proofs.YtoocdfgjkeheaaaGreatDoor.K
/- Proved here: a packet that lies in memory, loaded as one. Helpers. -/
namespace Go.Proofs.YtoocdfgjkeheaaaGreatDoor.K
open Go.RowKit
set_option maxRecDepth 100000

def Pkv.cells (p : Pkv) : List Value := [.int .i64 p.kind, .bool p.dup, .int .i64 p.qos, .bool p.retain, .string p.topic, .int .i64 p.id, .string p.payload, p.props.val, .string p.client, .bool p.clean, .int .i64 p.keep, p.wills.val, p.user.val, p.pass.val, .int .i64 p.code, .bool p.session, p.subs.val, p.filters.val, p.codes.val]
theorem Pk.range {w : World} {R : Nat} {q : Pkv} (h : Pk w R q) : w.rangeAt R 0 q.cells := by
  intro j v hj
  have hl : j < 19 := (List.getElem?_eq_some_iff.1 hj).1
  rw [Nat.zero_add, (h j hl).1, ← hj]
  match j, hl with
  | 0, _ => rfl
  | 1, _ => rfl
  | 2, _ => rfl
  | 3, _ => rfl
  | 4, _ => rfl
  | 5, _ => rfl
  | 6, _ => rfl
  | 7, _ => rfl
  | 8, _ => rfl
  | 9, _ => rfl
  | 10, _ => rfl
  | 11, _ => rfl
  | 12, _ => rfl
  | 13, _ => rfl
  | 14, _ => rfl
  | 15, _ => rfl
  | 16, _ => rfl
  | 17, _ => rfl
  | 18, _ => rfl
theorem packet_size : (Tryz.prog.info? 30).map (·.size) = some 19 := by kernel_rfl
theorem load_pk {w : World} {R : Nat} {q : Pkv} (h : Pk w R q) : (Instr.loadAt 30 (.pointer (some ⟨R, 0, none⟩))).run Tryz.prog w = .ok q.val w :=
  run_loadAt_mid w R 0 30 q.cells _ h.range Tryz.underlying30 rfl packet_size
theorem Pkv.ones (q : Pkv) : ∀ v ∈ q.cells, v.oneCell' = true := by
  intro v hv
  simp only [Pkv.cells, List.mem_cons, List.not_mem_nil, or_false] at hv
  rcases hv with rfl | rfl | rfl | rfl | rfl | rfl | rfl | rfl | rfl | rfl | rfl | rfl | rfl | rfl | rfl | rfl | rfl | rfl | rfl <;> rfl
theorem Pkv.ones' (q : Pkv) : q.cells.toArray.all (·.oneCell') = true := all_oneCell_toArray q.ones
theorem Pk.there {w : World} {R : Nat} {q : Pkv} (h : Pk w R q) (r : Pkv) : w.there R 0 r.cells.toArray.size := fun j hj => by
  have hj : j < 19 := hj
  rw [Nat.zero_add, (h j hj).1]
  exact ⟨rfl, (h j hj).2⟩
theorem cells_get (q : Pkv) (j : Nat) (hj : j < 19) : q.cells[j]? = some (q.cell j) := by
  match j, hj with
  | 0, _ => rfl
  | 1, _ => rfl
  | 2, _ => rfl
  | 3, _ => rfl
  | 4, _ => rfl
  | 5, _ => rfl
  | 6, _ => rfl
  | 7, _ => rfl
  | 8, _ => rfl
  | 9, _ => rfl
  | 10, _ => rfl
  | 11, _ => rfl
  | 12, _ => rfl
  | 13, _ => rfl
  | 14, _ => rfl
  | 15, _ => rfl
  | 16, _ => rfl
  | 17, _ => rfl
  | 18, _ => rfl
  | n + 19, h => exact absurd h (by omega)
/-- a packet stored over another one -/
theorem Pk.stored {w : World} {R : Nat} {q : Pkv} (h : Pk w R q) (r : Pkv) : Pk (w.setCells R 0 r.cells) R r := fun j hj => by
  have k := World.rangeAt_setCells_same w R 0 r.cells (h.there r) j _ (cells_get r j hj)
  rw [Nat.zero_add] at k
  exact ⟨k, by rw [World.frozen?_setCells]; exact (h j hj).2⟩
theorem setCells_below {w0 w : World} {B R o : Nat} {vs : List Value} (h : Below B w0 w) (hR : B ≤ R) : Below B w0 (w.setCells R o vs) := by
  induction vs generalizing w o with
  | nil => exact h
  | cons v vs ih =>
    rw [World.setCells]
    refine ih ?_
    exact ⟨h.os, h.tape, h.output, by simpa [World.setCell] using h.size, fun k hk => (Below.heap_setCell _ _ _ _ (by show k ≠ R; omega)).trans (h.block k hk)⟩
/-- a new block with a packet -/
theorem pk_new (w : World) (q : Pkv) : Pk (w.alloc (.cells q.cells.toArray 30)) w.heap.size q := fun j hj => by
  refine ⟨?_, by simp⟩
  have k := heap_alloc_new w (.cells q.cells.toArray 30)
  unfold World.cell?
  dsimp only
  rw [k]
  simpa using cells_get q j hj
/-- a return of a packet that lies in memory -/
theorem res_pk2 {fn : Func} {a t : Tmp} (h : fn.results = #[.cell a 30, .tmp t]) {tmps : Array Value} {w : World} {B : Nat} {q : Pkv} (ha : tmps[a]?.getD undef = .pointer (some ⟨B, 0, none⟩)) (hq : Pk w B q) : (results fn tmps).run Tryz.prog w = .ok (.tuple #[q.val, tmps[t]?.getD undef]) w := by
  have k := run_loadVar_mid (P := Tryz.prog) w B 0 30 q.cells _ hq.range Tryz.underlying30 rfl packet_size
  simp [results, h, ha, asAddr, k]
  rfl
theorem res_pk3 {fn : Func} {a t u : Tmp} (h : fn.results = #[.cell a 30, .tmp t, .tmp u]) {tmps : Array Value} {w : World} {B : Nat} {q : Pkv} (ha : tmps[a]?.getD undef = .pointer (some ⟨B, 0, none⟩)) (hq : Pk w B q) : (results fn tmps).run Tryz.prog w = .ok (.tuple #[q.val, tmps[t]?.getD undef, tmps[u]?.getD undef]) w := by
  have k := run_loadVar_mid (P := Tryz.prog) w B 0 30 q.cells _ hq.range Tryz.underlying30 rfl packet_size
  simp [results, h, ha, asAddr, k]
  rfl
end Go.Proofs.YtoocdfgjkeheaaaGreatDoor.K
/- Proved here: packet's reader: connectFlags. Helper contracts. -/
namespace Go.Proofs.YtoocdfgjkeheaaaGreatDoor.K
open Go.RowKit
set_option maxRecDepth 100000

theorem and2 (x : Int) (h0 : 0 ≤ x) (h1 : x ≤ 255) : (bits .and .i64 x 2 != 0) = btest x 2 := byte_cases (P := fun x => (bits .and .i64 x 2 != 0) = btest x 2) (by decide +kernel) x h0 h1
theorem and32 (x : Int) (h0 : 0 ≤ x) (h1 : x ≤ 255) : (bits .and .i64 x 32 != 0) = btest x 32 := byte_cases (P := fun x => (bits .and .i64 x 32 != 0) = btest x 32) (by decide +kernel) x h0 h1
theorem and64 (x : Int) (h0 : 0 ≤ x) (h1 : x ≤ 255) : (bits .and .i64 x 64 != 0) = btest x 64 := byte_cases (P := fun x => (bits .and .i64 x 64 != 0) = btest x 64) (by decide +kernel) x h0 h1
theorem and128 (x : Int) (h0 : 0 ≤ x) (h1 : x ≤ 255) : (bits .and .i64 x 128 != 0) = btest x 128 := byte_cases (P := fun x => (bits .and .i64 x 128 != 0) = btest x 128) (by decide +kernel) x h0 h1
theorem shq (x : Int) (h0 : 0 ≤ x) (h1 : x ≤ 255) : bits .and .i64 (x / 8) 3 = x / 8 % 4 := byte_cases (P := fun x => bits .and .i64 (x / 8) 3 = x / 8 % 4) (by decide +kernel) x h0 h1
theorem make_str (w : World) : (Instr.makeSlice 26 (.int .i64 1) (.int .i64 1)).run Tryz.prog w = .ok (.slice (some ⟨w.heap.size, 0, none⟩) 1 1) (w.alloc (.cells #[.string ⟨#[]⟩] 9)) := by kernel_rfl
/-- what the flags tell to come -/
def cws (x : Int) : List Wv := if btest x 4 then [⟨⟨#[]⟩, ⟨#[]⟩, x / 8 % 4, btest x 32, ⟨none, 0, 0⟩⟩] else []
def cfok (x : Int) : Bool := cok (btest x 128).toNat (btest x 64).toNat (cws x) && (cfl (btest x 128).toNat (btest x 64).toNat (btest x 2) (cws x) == x)
def flags? : List Int → Option (Int × List Int) := bindR one? fun x => bindR (mustR (cfok x)) fun _ => pureR x
def isW (V : Nat) (b : Bool) : Sl := if b then ⟨some ⟨V, 0, none⟩, 1, 1⟩ else ⟨none, 0, 0⟩
theorem al {w : World} (ob : Obj) : Below w.heap.size w (w.alloc ob) := (Below.refl _ _).alloc (Nat.le_refl _) _
/-- a room for what is to come, in a new block -/
def Rm (B R : Nat) (w : World) (b : Bool) (V : Nat) (ob : Obj) : Prop := B ≤ V ∧ V ≠ R ∧ (b = true → V < w.heap.size ∧ w.heap[V]? = some ob)
theorem Rm.bx {B R : Nat} {may : Nat → Prop} {w w' : World} {b : Bool} {V : Nat} {ob : Obj} (h : Rm B R w b V ob) (hx : BX R may w w') : Rm B R w' b V ob :=
  ⟨h.1, h.2.1, fun hb => ⟨Nat.lt_of_lt_of_le (h.2.2 hb).1 hx.size, (hx.block V (h.2.2 hb).1 h.2.1).trans (h.2.2 hb).2⟩⟩
theorem Rm.below {B R : Nat} {w w' : World} {b : Bool} {V : Nat} {ob : Obj} (h : Rm B R w b V ob) (hx : Below w.heap.size w w') : Rm B R w' b V ob :=
  ⟨h.1, h.2.1, fun hb => ⟨Nat.lt_of_lt_of_le (h.2.2 hb).1 hx.size, (hx.block V (h.2.2 hb).1).trans (h.2.2 hb).2⟩⟩
theorem Rm.new {B R : Nat} {w : World} (ob : Obj) (hB : B ≤ w.heap.size) (hR : R < w.heap.size) (b : Bool) (j : Nat) (u : Value) : Rm B R ((w.setCell ⟨R, j, none⟩ u).alloc ob) b w.heap.size ob := by
  have e : (w.setCell ⟨R, j, none⟩ u).heap.size = w.heap.size := by simp [World.setCell]
  refine ⟨hB, by omega, fun _ => ⟨by simp, ?_⟩⟩
  have k := heap_alloc_new (w.setCell ⟨R, j, none⟩ u) ob
  rw [e] at k
  exact k
theorem bx_set_al {R : Nat} {a b : World} (h : BX R isAny a b) (j : Nat) (u : Value) (ob : Obj) (hR : R < b.heap.size) : BX R isAny a ((b.setCell ⟨R, j, none⟩ u).alloc ob) := (h.set j u trivial).trans (BX.of_below (al _) (by simpa [World.setCell] using hR))
abbrev willO (x : Int) : Obj := .cells #[.string ⟨#[]⟩, .string ⟨#[]⟩, .int .i64 (x / 8 % 4), .bool (btest x 32), .slice none 0 0] 73
abbrev strO : Obj := .cells #[.string ⟨#[]⟩] 9
/-- rooms, in blocks of their own -/
structure Rooms (B R : Nat) (w : World) (x : Int) (V U Q : Nat) : Prop where
  v : Rm B R w (btest x 4) V (willO x)
  u : Rm B R w (btest x 128) U strO
  q : Rm B R w (btest x 64) Q strO
  vu : btest x 4 = true → btest x 128 = true → V ≠ U
  vq : btest x 4 = true → btest x 64 = true → V ≠ Q
  uq : btest x 128 = true → btest x 64 = true → U ≠ Q
def FlagsPost (w0 : World) (R : Nat) (p : Pkv) (st : Option (List Int)) (w : World) (e : Ending) (w' : World) : Prop :=
  e = .returned (.tuple #[]) ∧ ∃ (x : Int) (V U Q : Nat) (st' : Option (List Int)), (0 ≤ x ∧ x ≤ 255) ∧ Pk w' R { p with clean := btest x 2, wills := isW V (btest x 4), user := isW U (btest x 128), pass := isW Q (btest x 64) } ∧ Hid (Rooms w.heap.size R w' x V U Q) ∧ Stp flags? st x st' ∧ RS w0 w' R st' ∧ BX R isAny w w'
theorem Rw.of_new {w : World} {V : Nat} {u : Wv} {t : TypeId} (h : w.heap[V]? = some (.cells #[.string u.topic, .string u.payload, .int .i64 u.qos, .bool u.retain, u.props.val] t)) : Rw w ⟨some ⟨V, 0, none⟩, 1, 1⟩ 5 (wcs [u]) := by
  refine ⟨rfl, ⟨Nat.le_refl _, by unfold maxLen; simp⟩, .inr ⟨V, 0, rfl, fun j hj => ?_⟩⟩
  rw [show (wcs [u]).length = 5 from rfl] at hj
  match j, hj with
  | 0, _ => simp [World.cell?, h, wcs, Wv.cells]
  | 1, _ => simp [World.cell?, h, wcs, Wv.cells]
  | 2, _ => simp [World.cell?, h, wcs, Wv.cells]
  | 3, _ => simp [World.cell?, h, wcs, Wv.cells]
  | 4, _ => simp [World.cell?, h, wcs, Wv.cells]
theorem Rw.nil (w : World) : Rw w ⟨none, 0, 0⟩ 5 (wcs []) := ⟨rfl, ⟨Nat.le_refl _, Nat.zero_le _⟩, .inl rfl⟩
set_option maxHeartbeats 4000000 in
theorem rflags_any (R : Nat) (p : Pkv) (st : Option (List Int)) (w0 w : World) (h : RS w0 w R st) (hp : Pk w R p) (hn1 : p.wills = ⟨none, 0, 0⟩) (hn2 : p.user = ⟨none, 0, 0⟩) (hn3 : p.pass = ⟨none, 0, 0⟩) : Calls Tryz.prog 162 #[.pointer (some ⟨R, 0, none⟩)] w (FlagsPost w0 R p st w) := by
  have hlt := h.lt
  have HP := hide hp
  have HS := hide h
  have HN1 := hide hn1
  have HN2 := hide hn2
  have HN3 := hide hn3
  clear hp h hn1 hn2 hn3
  go_enter Tryz.func162, Tryz.ntmps162
  go_wp2_with fail
  refine wp_region_noPanic ?_
  refine wp_region_held_drew (S := (fun _ => True)) (by kernel_rfl) trivial (fun hHeld => ?_)
  refine wpAnyH_take (i := 0) (oi := { dst := some 8, op := Op.move (Operand.tmp 0), type := 143, pos := "read.go:66", after := #[], guard := none }) (v := ?v1) rfl (by kernel_rfl) (by kernel_rfl) (by kernel_rfl) (fun _ _ _ h => h) (Or.inl ⟨by rfl, ?hy1⟩) (by assumption) ?rest1
  case hy1 => (intro w hSw; (try dsimp only at hSw); go_simp; (try rw [if_pos (by omega)]); (try with_reducible rfl))
  simp only [Act.put, List.setIfInBounds_toArray, List.set_cons_zero, List.set_cons_succ]
  refine wpAnyH_take (i := 1) (oi := { dst := some 9, op := Op.nilCheck (Operand.tmp 8), type := 0, pos := "read.go:66", after := #[{ on := 0, ground := Ground.data }], guard := none }) (v := ?v2) rfl (by kernel_rfl) (by kernel_rfl) (by kernel_rfl) (fun _ _ _ h => h) (Or.inl ⟨by rfl, ?hy2⟩) (by assumption) ?rest2
  case hy2 => (intro w hSw; (try dsimp only at hSw); go_simp; (try rw [if_pos (by omega)]); (try with_reducible rfl))
  simp only [Act.put, List.setIfInBounds_toArray, List.set_cons_zero, List.set_cons_succ]
  refine wpAnyH_take (i := 2) (oi := { dst := some 10, op := Op.fieldAddr 101 (Operand.tmp 9) 0, type := 0, pos := "read.go:66", after := #[{ on := 1, ground := Ground.data }], guard := none }) (v := ?v3) rfl (by kernel_rfl) (by kernel_rfl) (by kernel_rfl) (fun _ _ _ h => h) (Or.inl ⟨by rfl, ?hy3⟩) (by assumption) ?rest3
  case hy3 => (intro w hSw; (try dsimp only at hSw); go_simp; (try rw [if_pos (by omega)]); (try with_reducible rfl))
  simp only [Act.put, List.setIfInBounds_toArray, List.set_cons_zero, List.set_cons_succ]
  refine wpAnyH_take (i := 3) (oi := { dst := some 11, op := Op.move (Operand.tmp 0), type := 143, pos := "read.go:66", after := #[], guard := none }) (v := ?v4) rfl (by kernel_rfl) (by kernel_rfl) (by kernel_rfl) (fun _ _ _ h => h) (Or.inl ⟨by rfl, ?hy4⟩) (by assumption) ?rest4
  case hy4 => (intro w hSw; (try dsimp only at hSw); go_simp; (try rw [if_pos (by omega)]); (try with_reducible rfl))
  simp only [Act.put, List.setIfInBounds_toArray, List.set_cons_zero, List.set_cons_succ]
  refine wpAnyH_ready (rs := [4]) (by kernel_rfl) (by simp) ?_
  refine AllReadyH.cons (o := { dst := some 12, op := Op.call { callee := Callee.value (Operand.func 118), args := #[Operand.tmp 11], argTypes := #[143] }, type := 3, pos := "read.go:66", after := #[{ on := 3, ground := Ground.data }], guard := none }) rfl (fun K hK => ?_) AllReadyH.nil
  go_simp
  refine (one_any R st w0 _ ((unhide HS).below (bel_drew w))).mono ?_
  rintro e w1 ⟨x, st1, rfl, hx, hs1, h1, hx1⟩
  refine hK.out _ _ trivial (fun hHeld => ?_)
  clear hK K
  refine wpAnyH_ready (rs := [5]) (by kernel_rfl) (by simp) ?_
  refine AllReadyH.cons (o := { dst := some 2, op := Op.assign (Operand.tmp 10), type := 108, pos := "read.go:66", after := #[{ on := 2, ground := Ground.data }, { on := 4, ground := Ground.chain }, { on := 0, ground := Ground.phase }, { on := 1, ground := Ground.phase }, { on := 2, ground := Ground.phase }, { on := 3, ground := Ground.textOnly Departure.lateStores }, { on := 4, ground := Ground.textOnly Departure.lateStoresUnsure }], guard := none }) rfl (fun K hK => ?_) AllReadyH.nil
  go_simp
  refine hK.out _ _ trivial (fun hHeld => ?_)
  clear hK K
  refine wpAnyH_ready (rs := [6]) (by kernel_rfl) (by simp) ?_
  refine AllReadyH.cons (o := { dst := some 3, op := Op.assign (Operand.tmp 12), type := 3, pos := "read.go:66", after := #[{ on := 4, ground := Ground.data }, { on := 5, ground := Ground.chain }, { on := 0, ground := Ground.phase }, { on := 1, ground := Ground.phase }, { on := 2, ground := Ground.phase }, { on := 3, ground := Ground.phase }, { on := 4, ground := Ground.phase }, { on := 5, ground := Ground.phase }], guard := none }) rfl (fun K hK => ?_) AllReadyH.nil
  go_simp
  refine hK.out _ _ trivial (fun hHeld => ?_)
  clear hK K
  refine wpAnyH_done (by kernel_rfl) ?_ _
  refine NoPanic.normal ?_
  have hp1 := ((unhide HP).below (bel_drew w)).bx hx1
  have c9 := hp1.clean
  have f9 := hp1.clean_f
  have c11 := hp1.wills
  have f11 := hp1.wills_f
  have hlt1 : R < w1.heap.size := Nat.lt_of_lt_of_le hlt hx1.size
  have hwl : w.heap.size ≤ w1.heap.size := hx1.size
  have HP1 := hide (hp1.set_clean (btest x 2))
  have HS1 := hide (h1.set 9 (.bool (btest x 2)) (by decide))
  have HX1 : Hid (BX R isAny w (w1.setCell ⟨R, 9, none⟩ (.bool (btest x 2)))) := (((BX.of_below (bel_drew w) hlt).trans hx1).any).set 9 _ trivial
  have HST1 := hide hs1
  have b2 := and2 x hx.1 hx.2
  have b4 := and4 x hx.1 hx.2
  have b32 := and32 x hx.1 hx.2
  have b64 := and64 x hx.1 hx.2
  have b128 := and128 x hx.1 hx.2
  have b3 := shq x hx.1 hx.2
  rw [unhide HN1] at c11
  clear hp1 h1 hx1 hs1 hHeld
  go_upto_if 21 with fail
  go_cut [] from 4 (fun wx => ∃ V, Hid (RS w0 wx R st1) ∧ Hid (Pk wx R { p with clean := btest x 2, wills := isW V (btest x 4) }) ∧ Hid (BX R isAny w wx) ∧ Hid (Rm w.heap.size R wx (btest x 4) V (willO x)))
  case first =>
    cases h4 : btest x 4
    · rw [h4] at b4
      go_wp2
      go_meet
      case rel =>
        rw [h4]
        refine ⟨w1.heap.size, HS1, ?_, HX1, ⟨hwl, by omega, fun h => by cases h⟩⟩
        have e : { p with clean := btest x 2, wills := isW w1.heap.size false } = { p with clean := btest x 2 } := by rw [show isW w1.heap.size false = p.wills from (unhide HN1).symm]
        show Pk _ _ _
        rw [e]
        exact unhide HP1
    · rw [h4] at b4
      go_wp2
      go_meet
      case rel =>
        rw [h4]
        refine ⟨w1.heap.size, ((unhide HS1).set 11 _ (by decide)).below (al _), ((unhide HP1).set_wills ⟨some ⟨w1.heap.size, 0, none⟩, 1, 1⟩).below (al _), bx_set_al (unhide HX1) 11 _ _ (by simpa [World.setCell] using hlt1), ?_⟩
        have k := Rm.new (B := w.heap.size) (R := R) (w := w1.setCell ⟨R, 9, none⟩ (.bool (btest x 2))) (willO x) (by simpa [World.setCell] using hwl) (by simpa [World.setCell] using hlt1) true 11 (.slice (some ⟨w1.heap.size, 0, none⟩) 1 1)
        rw [show (w1.setCell ⟨R, 9, none⟩ (.bool (btest x 2))).heap.size = w1.heap.size from by simp [World.setCell]] at k
        exact k
  case rest =>
  obtain ⟨V, HS2, HP2, HX2, HV⟩ := hcut
  obtain ⟨w2, hw2⟩ : ∃ w2, w2 = wc := ⟨wc, rfl⟩
  subst hw2
  clear HP1 HS1 HX1 hlt1 hwl c9 f9 c11 f11
  have c12 := (unhide HP2).user
  have f12 := (unhide HP2).user_f
  simp only at c12
  rw [unhide HN2] at c12
  have hlt2 : R < w2.heap.size := (unhide HS2).lt
  have hwl2 : w.heap.size ≤ w2.heap.size := (unhide HX2).size
  have hmk := make_str
  go_upto_if 37 with fail
  go_cut [] from 4 (fun wx => ∃ U, Hid (RS w0 wx R st1) ∧ Hid (Pk wx R { p with clean := btest x 2, wills := isW V (btest x 4), user := isW U (btest x 128) }) ∧ Hid (BX R isAny w wx) ∧ Hid (Rm w.heap.size R wx (btest x 4) V (willO x)) ∧ Hid (Rm w.heap.size R wx (btest x 128) U strO) ∧ Hid ((btest x 4 = true → btest x 128 = true → V ≠ U)))
  case first =>
    cases hb : btest x 128
    · rw [hb] at b128
      go_wp2
      go_meet
      case rel =>
        refine ⟨w2.heap.size, HS2, ?_, HX2, HV, ⟨hwl2, by omega, fun h => by rw [hb] at h; cases h⟩, fun _ h => by rw [hb] at h; cases h⟩
        have e : ({ p with clean := btest x 2, wills := isW V (btest x 4), user := isW w2.heap.size (btest x 128) } : Pkv) = { p with clean := btest x 2, wills := isW V (btest x 4) } := by rw [hb, show isW w2.heap.size false = p.user from (unhide HN2).symm]
        show Pk _ _ _
        rw [e]
        exact unhide HP2
    · rw [hb] at b128
      go_wp2
      go_meet
      case rel =>
        refine ⟨w2.heap.size, ((unhide HS2).set 12 _ (by decide)).below (al _), ?_, bx_set_al (unhide HX2) 12 _ _ hlt2, (unhide HV).bx (bx_set_al (BX.refl R isAny w2) 12 _ _ hlt2), Rm.new strO hwl2 hlt2 _ 12 _, fun h _ => by have := ((unhide HV).2.2 h).1; omega⟩
        rw [hb]
        exact ((unhide HP2).set_user ⟨some ⟨w2.heap.size, 0, none⟩, 1, 1⟩).below (al _)
  case rest =>
  obtain ⟨U, HS3, HP3, HX3, HV', HU, HVU⟩ := hcut
  obtain ⟨w3, hw3⟩ : ∃ w3, w3 = wc := ⟨wc, rfl⟩
  subst hw3
  clear HP2 HS2 HX2 hlt2 hwl2 c12 f12 HV
  have HV := HV'
  clear HV'
  have c13 := (unhide HP3).pass
  have f13 := (unhide HP3).pass_f
  simp only at c13
  rw [unhide HN3] at c13
  have hlt3 : R < w3.heap.size := (unhide HS3).lt
  have hwl3 : w.heap.size ≤ w3.heap.size := (unhide HX3).size
  have hmk := make_str
  go_upto_if 44 with fail
  go_cut [] from 4 (fun wx => ∃ Q, Hid (RS w0 wx R st1) ∧ Hid (Pk wx R { p with clean := btest x 2, wills := isW V (btest x 4), user := isW U (btest x 128), pass := isW Q (btest x 64) }) ∧ Hid (BX R isAny w wx) ∧ Hid (Rm w.heap.size R wx (btest x 4) V (willO x)) ∧ Hid (Rm w.heap.size R wx (btest x 128) U strO) ∧ Hid (Rm w.heap.size R wx (btest x 64) Q strO) ∧ Hid ((btest x 4 = true → btest x 64 = true → V ≠ Q) ∧ (btest x 128 = true → btest x 64 = true → U ≠ Q)))
  case first =>
    cases hb : btest x 64
    · rw [hb] at b64
      go_wp2
      go_meet
      case rel =>
        refine ⟨w3.heap.size, HS3, ?_, HX3, HV, HU, ⟨hwl3, by omega, fun h => by rw [hb] at h; cases h⟩, ⟨(fun _ h => by rw [hb] at h; cases h), (fun _ h => by rw [hb] at h; cases h)⟩⟩
        have e : ({ p with clean := btest x 2, wills := isW V (btest x 4), user := isW U (btest x 128), pass := isW w3.heap.size (btest x 64) } : Pkv) = { p with clean := btest x 2, wills := isW V (btest x 4), user := isW U (btest x 128) } := by rw [hb, show isW w3.heap.size false = p.pass from (unhide HN3).symm]
        show Pk _ _ _
        rw [e]
        exact unhide HP3
    · rw [hb] at b64
      go_wp2
      go_meet
      case rel =>
        refine ⟨w3.heap.size, ((unhide HS3).set 13 _ (by decide)).below (al _), ?_, bx_set_al (unhide HX3) 13 _ _ hlt3, (unhide HV).bx (bx_set_al (BX.refl R isAny w3) 13 _ _ hlt3), (unhide HU).bx (bx_set_al (BX.refl R isAny w3) 13 _ _ hlt3), Rm.new strO hwl3 hlt3 _ 13 _, ⟨(fun h _ => by have := ((unhide HV).2.2 h).1; omega), (fun h _ => by have := ((unhide HU).2.2 h).1; omega)⟩⟩
        rw [hb]
        exact ((unhide HP3).set_pass ⟨some ⟨w3.heap.size, 0, none⟩, 1, 1⟩).below (al _)
  case rest =>
  obtain ⟨Q, HS4, HP4, HX4, HV', HU', HQ, HVQ⟩ := hcut
  obtain ⟨w4, hw4⟩ : ∃ w4, w4 = wc := ⟨wc, rfl⟩
  subst hw4
  clear HP3 HS3 HX3 hlt3 hwl3 c13 f13 HV HU
  obtain ⟨q, hq⟩ : ∃ q : Pkv, q = { p with clean := btest x 2, wills := isW V (btest x 4), user := isW U (btest x 128), pass := isW Q (btest x 64) } := ⟨_, rfl⟩
  have HP5 : Hid (Pk w4 R q) := by rw [hq]; exact HP4
  have HRW : Hid (Rw w4 q.wills 5 (wcs (cws x))) := by
    show Rw _ _ _ _
    rw [hq]
    unfold cws
    cases h4 : btest x 4
    · exact Rw.nil _
    · have k := ((unhide HV').2.2 h4).2
      exact Rw.of_new (u := ⟨⟨#[]⟩, ⟨#[]⟩, x / 8 % 4, btest x 32, ⟨none, 0, 0⟩⟩) k
  have hun : q.user.n = (btest x 128).toNat := by rw [hq]; cases btest x 128 <;> rfl
  have hpn : q.pass.n = (btest x 64).toNat := by rw [hq]; cases btest x 64 <;> rfl
  have hcl : q.clean = btest x 2 := by rw [hq]
  have HCF : Hid (cfok x = (cok q.user.n q.pass.n (cws x) && (cfl q.user.n q.pass.n q.clean (cws x) == x))) := by show _ = _; rw [hun, hpn, hcl]; rfl
  have hu1 : q.user.n ≤ maxLen := by rw [hun]; cases btest x 128 <;> simp [maxLen]
  have hp1 : q.pass.n ≤ maxLen := by rw [hpn]; cases btest x 64 <;> simp [maxLen]
  have HQ5 := hide hq
  clear hq hun hpn hcl
  have HCC := hide (connectFlags_any q (cws x) w4 (unhide HRW) hu1 hp1)
  generalize cfl q.user.n q.pass.n q.clean (cws x) = fl at HCF HCC
  generalize cok q.user.n q.pass.n (cws x) = bo at HCF HCC
  clear hu1 hp1
  go_upto_region 9 with fail
  iterate 7 go_step
  refine wpList_load_mid rfl 30 _ rfl R 0 rfl q.cells _ (unhide HP5).range Tryz.underlying30 rfl packet_size ?_
  simp only [Act.put, List.setIfInBounds_toArray, List.set_cons_zero, List.set_cons_succ]
  go_wp2_with fail
  refine (unhide HCC).mono ?_
  rintro e w5 ⟨rfl, hb5⟩
  have HB5 := hide hb5
  have HS5 := hide ((unhide HS4).below hb5)
  clear hb5
  cases bo
  · go_wp2_with fail
    refine (must_any R _ st1 w0 w5 (unhide HS5)).mono ?_
    rintro e w6 ⟨rfl, h6, hx6⟩
    have HS6 := hide h6
    have HX6 := hide hx6
    clear h6 hx6
    go_wp2
    go_end0
    refine ⟨rfl, x, V, U, Q, _, hx, ((unhide HP4).below (unhide HB5)).bx (unhide HX6), ⟨((unhide HV').below (unhide HB5)).bx (unhide HX6), ((unhide HU').below (unhide HB5)).bx (unhide HX6), ((unhide HQ).below (unhide HB5)).bx (unhide HX6), unhide HVU, (unhide HVQ).1, (unhide HVQ).2⟩, ?_, unhide HS6, ((unhide HX4).trans (BX.of_below (unhide HB5) (unhide HS4).lt)).trans (unhide HX6).any⟩
    refine (unhide HST1).bind ((?_ : Stp (mustR (cfok x)) st1 () (if false then st1 else none)).bind (Stp.pure _ _))
    rw [unhide HCF]
    exact Stp.must _ _
  · go_wp2_with fail
    refine (must_any R _ st1 w0 w5 (unhide HS5)).mono ?_
    rintro e w6 ⟨rfl, h6, hx6⟩
    have HS6 := hide h6
    have HX6 := hide hx6
    clear h6 hx6
    go_wp2
    go_end0
    refine ⟨rfl, x, V, U, Q, _, hx, ((unhide HP4).below (unhide HB5)).bx (unhide HX6), ⟨((unhide HV').below (unhide HB5)).bx (unhide HX6), ((unhide HU').below (unhide HB5)).bx (unhide HX6), ((unhide HQ).below (unhide HB5)).bx (unhide HX6), unhide HVU, (unhide HVQ).1, (unhide HVQ).2⟩, ?_, unhide HS6, ((unhide HX4).trans (BX.of_below (unhide HB5) (unhide HS4).lt)).trans (unhide HX6).any⟩
    refine (unhide HST1).bind ((?_ : Stp (mustR (cfok x)) st1 () (if (fl == x) then st1 else none)).bind (Stp.pure _ _))
    rw [unhide HCF]
    exact Stp.must _ _
end Go.Proofs.YtoocdfgjkeheaaaGreatDoor.K
/- Proved here: what packet's reader needs for connect: rooms in memory. Helpers. -/
namespace Go.Proofs.YtoocdfgjkeheaaaGreatDoor.K
open Go.RowKit
set_option maxRecDepth 100000

def will? (x : Int) : List Int → Option (Option (List Pr × ByteArray × ByteArray) × List Int) := if btest x 4 then bindR (props? 16) fun q => bindR text? fun t => bindR bin? fun y => pureR (some (q, t, y)) else pureR none
def user? (x : Int) : List Int → Option (Option ByteArray × List Int) := if btest x 128 then bindR text? fun t => pureR (some t) else pureR none
def pass? (x : Int) : List Int → Option (Option ByteArray × List Int) := if btest x 64 then bindR bin? fun t => pureR (some t) else pureR none
/-- what a Connect tells: its flags, Keep, Props, Client, a will, a user, a password -/
structure Cn where
  x : Int
  keep : Int
  props : List Pr
  client : ByteArray
  will : Option (List Pr × ByteArray × ByteArray)
  user : Option ByteArray
  pass : Option ByteArray
def isMQTT (m : ByteArray) : Bool := m.toList == [77, 81, 84, 84]
def connect? : List Int → Option (Cn × List Int) :=
  bindR text? fun m => bindR (mustR (isMQTT m)) fun _ => bindR one? fun v => bindR (mustR (v == 5)) fun _ => bindR flags? fun x => bindR two? fun k => bindR (props? 1) fun pr => bindR text? fun c =>
    bindR (will? x) fun wl => bindR (user? x) fun us => bindR (pass? x) fun pa => pureR ⟨x, k, pr, c, wl, us, pa⟩
/-- the will lies in its room; its properties lie in a row of their own, at N or behind -/
def WillAt (B N R : Nat) (w : World) (x : Int) (V : Nat) (wl : Option (List Pr × ByteArray × ByteArray)) : Prop :=
  (btest x 4 = false → wl = none) ∧ (btest x 4 = true → ∃ q t y tq, wl = some (q, t, y) ∧ B ≤ V ∧ V ≠ R ∧ V < w.heap.size ∧ w.heap[V]? = some (.cells #[.string t, .string y, .int .i64 (x / 8 % 4), .bool (btest x 32), Sl.val tq] 73) ∧ w.ownsRow N 120 4 tq.val q.length (pcs q))
/-- a text lies in its room -/
def StrAt (B R : Nat) (w : World) (b : Bool) (U : Nat) (us : Option ByteArray) : Prop :=
  (b = false → us = none) ∧ (b = true → ∃ t, us = some t ∧ B ≤ U ∧ U ≠ R ∧ U < w.heap.size ∧ w.heap[U]? = some (.cells #[.string t] 9))
theorem StrAt.bx {B R : Nat} {may : Nat → Prop} {w w' : World} {b : Bool} {U : Nat} {us : Option ByteArray} (h : StrAt B R w b U us) (hx : BX R may w w') : StrAt B R w' b U us :=
  ⟨h.1, fun hb => by
    obtain ⟨t, h1, h2, h3, h4, h5⟩ := h.2 hb
    exact ⟨t, h1, h2, h3, Nat.lt_of_lt_of_le h4 hx.size, (hx.block U h4 h3).trans h5⟩⟩
theorem owns_out {w : World} {V j : Nat} {u : Value} {B : Nat} {e : TypeId} {s : Nat} {v : Value} {n : Nat} {xs : List Value} (h : w.ownsRow B e s v n xs) (hV : V < B) : (w.setCell ⟨V, j, none⟩ u).ownsRow B e s v n xs := by
  refine ⟨h.1, ?_⟩
  rcases h.2 with h1 | ⟨g, cap, cur, hv, hB, hg, rest⟩
  · exact .inl h1
  · exact .inr ⟨g, cap, cur, hv, hB, by rw [Below.heap_setCell _ _ _ _ (by show g ≠ V; omega)]; exact hg, rest⟩
theorem WillAt.bx {B N R : Nat} {may : Nat → Prop} {w w' : World} {x : Int} {V : Nat} {wl : Option (List Pr × ByteArray × ByteArray)} (h : WillAt B N R w x V wl) (hx : BX R may w w') (hR : R < N) : WillAt B N R w' x V wl :=
  ⟨h.1, fun hb => by
    obtain ⟨q, t, y, tq, h1, h2, h3, h4, h5, h6⟩ := h.2 hb
    exact ⟨q, t, y, tq, h1, h2, h3, Nat.lt_of_lt_of_le h4 hx.size, (hx.block V h4 h3).trans h5, owns_bx h6 hx hR⟩⟩
theorem WillAt.out {B N R : Nat} {w : World} {x : Int} {V U j : Nat} {u : Value} {wl : Option (List Pr × ByteArray × ByteArray)} (h : WillAt B N R w x V wl) (hU : btest x 4 = true → V ≠ U) (hN : U < N) : WillAt B N R (w.setCell ⟨U, j, none⟩ u) x V wl :=
  ⟨h.1, fun hb => by
    obtain ⟨q, t, y, tq, h1, h2, h3, h4, h5, h6⟩ := h.2 hb
    exact ⟨q, t, y, tq, h1, h2, h3, by simpa [World.setCell] using h4, (Below.heap_setCell _ _ _ _ (hU hb)).trans h5, owns_out h6 hN⟩⟩
theorem StrAt.out {B R : Nat} {w : World} {b : Bool} {U V j : Nat} {u : Value} {us : Option ByteArray} (h : StrAt B R w b U us) (hV : b = true → U ≠ V) : StrAt B R (w.setCell ⟨V, j, none⟩ u) b U us :=
  ⟨h.1, fun hb => by
    obtain ⟨t, h1, h2, h3, h4, h5⟩ := h.2 hb
    exact ⟨t, h1, h2, h3, by simpa [World.setCell] using h4, (Below.heap_setCell _ _ _ _ (hV hb)).trans h5⟩⟩
theorem Rm.out {B R : Nat} {w : World} {b : Bool} {U V j : Nat} {u : Value} {ob : Obj} (h : Rm B R w b U ob) (hV : b = true → U ≠ V) : Rm B R (w.setCell ⟨V, j, none⟩ u) b U ob :=
  ⟨h.1, h.2.1, fun hb => ⟨by simpa [World.setCell] using (h.2.2 hb).1, (Below.heap_setCell _ _ _ _ (hV hb)).trans (h.2.2 hb).2⟩⟩
theorem WillAt.base {B B' N R : Nat} {w : World} {x : Int} {V : Nat} {wl : Option (List Pr × ByteArray × ByteArray)} (h : WillAt B N R w x V wl) (hB : B' ≤ B) : WillAt B' N R w x V wl :=
  ⟨h.1, fun hb => by
    obtain ⟨q, t, y, tq, h1, h2, h3⟩ := h.2 hb
    exact ⟨q, t, y, tq, h1, Nat.le_trans hB h2, h3⟩⟩
theorem StrAt.base {B B' R : Nat} {w : World} {b : Bool} {U : Nat} {us : Option ByteArray} (h : StrAt B R w b U us) (hB : B' ≤ B) : StrAt B' R w b U us :=
  ⟨h.1, fun hb => by
    obtain ⟨t, h1, h2, h3⟩ := h.2 hb
    exact ⟨t, h1, Nat.le_trans hB h2, h3⟩⟩
theorem pk_out {w : World} {R V j : Nat} {u : Value} {p : Pkv} (h : Pk w R p) (hV : V ≠ R) : Pk (w.setCell ⟨V, j, none⟩ u) R p := fun i hi =>
  ⟨(World.cell?_setCell_other _ _ _ _ (fun e => by injection e with e1 _; exact hV e1)).trans (h i hi).1, by simpa using (h i hi).2⟩
theorem heap_set {w : World} {V j : Nat} {u : Value} {c : Array Value} {t : TypeId} (h : w.heap[V]? = some (.cells c t)) : (w.setCell ⟨V, j, none⟩ u).heap[V]? = some (.cells (c.setIfInBounds j u) t) := by
  unfold World.setCell
  simp [Array.getElem?_modify, h]
end Go.Proofs.YtoocdfgjkeheaaaGreatDoor.K
