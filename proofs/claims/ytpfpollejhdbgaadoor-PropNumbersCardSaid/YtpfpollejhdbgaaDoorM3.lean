/- Proved here: helpers, one text behind the other. -/
import Derived.Test.YtpfpollejhdbgaaDoorM2
import Derived.Handy
import Derived.Test.YtpfpollejhdbgaaDoorM1
/- Proved here: what a property is, where it may stand, which bytes it has, as plain functions; helpers that name no program's text. -/
namespace Go.Proofs.YtpfpollejhdbgaaDoor
open Go.RowKit

/-- a property: its ID, number, two texts -/
abbrev Pr := Int × Int × ByteArray × ByteArray
abbrev es : ByteArray := ⟨#[]⟩
/-- an empty text, as the walk tells it -/
abbrev emp (s : ByteArray) : Bool := s.toList.isEmpty
def p0 : Pr := (0, 0, es, es)
/-- an ID's kind: so many bytes of a number, 5 as varint, 6 a text, 7 bytes, 8 two texts, 0 none -/
def kd (id : Int) : Int :=
  if id = 1 ∨ id = 23 ∨ id = 25 ∨ id = 36 ∨ id = 37 ∨ id = 40 ∨ id = 41 ∨ id = 42 then 1
  else if id = 19 ∨ id = 33 ∨ id = 34 ∨ id = 35 then 2
  else if id = 2 ∨ id = 17 ∨ id = 24 ∨ id = 39 then 4
  else if id = 11 then 5
  else if id = 3 ∨ id = 8 ∨ id = 18 ∨ id = 21 ∨ id = 26 ∨ id = 28 ∨ id = 31 then 6
  else if id = 9 ∨ id = 22 then 7
  else if id = 38 then 8 else 0
/-- the least and the highest number of an ID -/
def lst (id : Int) : Int := if id = 11 ∨ id = 33 ∨ id = 35 ∨ id = 39 then 1 else 0
def mx (id : Int) : Int := if kd id = 1 then 1 else if kd id = 2 then 65535 else if kd id = 4 then 4294967295 else if kd id = 5 then 268435455 else 0
/-- where an ID may stand -/
def plc (id : Int) : List Int :=
  if id = 1 ∨ id = 2 ∨ id = 3 ∨ id = 8 ∨ id = 9 then [3, 16]
  else if id = 11 then [3, 8]
  else if id = 17 then [1, 2, 14]
  else if id = 18 ∨ id = 19 ∨ id = 26 ∨ id = 36 ∨ id = 37 ∨ id = 40 ∨ id = 41 ∨ id = 42 then [2]
  else if id = 21 ∨ id = 22 then [1, 2, 15]
  else if id = 23 ∨ id = 25 then [1]
  else if id = 24 then [16]
  else if id = 28 then [2, 14]
  else if id = 31 then [2, 4, 5, 6, 7, 9, 11, 14, 15]
  else if id = 33 ∨ id = 34 ∨ id = 39 then [1, 2]
  else if id = 35 then [3]
  else if id = 38 then [1, 2, 3, 4, 5, 6, 7, 8, 9, 10, 11, 14, 15, 16] else []
def mst (id place : Int) : Bool := decide (place ∈ plc id)
def rep (id place : Int) : Bool := decide (id = 38) || (decide (id = 11) && decide (place = 3))
/-- the number, and nothing beside what the ID has -/
def fit (p : Pr) : Bool := decide (lst p.1 ≤ p.2.1) && decide (p.2.1 ≤ mx p.1) &&
  (if kd p.1 = 8 then true else if kd p.1 = 6 ∨ kd p.1 = 7 then emp p.2.2.2 else emp p.2.2.1 && emp p.2.2.2)
/-- the texts -/
def txo (p : Pr) : Bool := if kd p.1 = 6 then decide (chk (sb p.2.2.1) = 0) else if kd p.1 = 7 then decide (p.2.2.1.size ≤ 65535) else if kd p.1 = 8 then decide (chk (sb p.2.2.1) = 0) && decide (chk (sb p.2.2.2) = 0) else decide (kd p.1 ≠ 0)
def may (p : Pr) : Bool := fit p && txo p
def at0 (l : List Pr) (i : Nat) : Pr := l.getD i p0
def seen (l : List Pr) (i : Nat) (id : Int) : Bool := (l.take i).any fun q => decide (q.1 = id)
def okAt (place : Int) (l : List Pr) (i : Nat) : Bool := mst (at0 l i).1 place && may (at0 l i) && (rep (at0 l i).1 place || !(seen l i (at0 l i).1))
/-- Check's number -/
def chkP (place : Int) (l : List Pr) : Int := if (∀ i, i < l.length → okAt place l i = true) then (if l.length ≤ 32 then 0 else 2) else 1
def pvb (p : Pr) : List Int :=
  if kd p.1 = 1 then [p.2.1] else if kd p.1 = 2 then [p.2.1 / 256, p.2.1 % 256]
  else if kd p.1 = 4 then [p.2.1 / 16777216, p.2.1 / 65536 % 256, p.2.1 / 256 % 256, p.2.1 % 256]
  else if kd p.1 = 5 then V.put p.2.1 else if kd p.1 = 8 then tx p.2.2.1 ++ tx p.2.2.2 else tx p.2.2.1
def pb (p : Pr) : List Int := V.put p.1 ++ pvb p
def body (l : List Pr) : List Int := l.flatMap pb
def pbs (l : List Pr) : List Int := V.put ((body l).length : Int) ++ body l

def pval (p : Pr) : Value := .agg #[.int .i64 p.1, .int .i64 p.2.1, .string p.2.2.1, .string p.2.2.2]
/-- one ID after the other -/
theorem id_cases {P : Int → Prop} (id : Int) (h1 : P 1) (h2 : P 2) (h3 : P 3) (h8 : P 8) (h9 : P 9) (h11 : P 11) (h17 : P 17) (h18 : P 18) (h19 : P 19) (h21 : P 21) (h22 : P 22) (h23 : P 23) (h24 : P 24) (h25 : P 25) (h26 : P 26) (h28 : P 28) (h31 : P 31) (h33 : P 33) (h34 : P 34) (h35 : P 35) (h36 : P 36) (h37 : P 37) (h38 : P 38) (h39 : P 39) (h40 : P 40) (h41 : P 41) (h42 : P 42) (hn : id ≠ 1 → id ≠ 2 → id ≠ 3 → id ≠ 8 → id ≠ 9 → id ≠ 11 → id ≠ 17 → id ≠ 18 → id ≠ 19 → id ≠ 21 → id ≠ 22 → id ≠ 23 → id ≠ 24 → id ≠ 25 → id ≠ 26 → id ≠ 28 → id ≠ 31 → id ≠ 33 → id ≠ 34 → id ≠ 35 → id ≠ 36 → id ≠ 37 → id ≠ 38 → id ≠ 39 → id ≠ 40 → id ≠ 41 → id ≠ 42 → P id) : P id := by
  by_cases e1 : id = 1
  · rw [e1]; exact h1
  by_cases e2 : id = 2
  · rw [e2]; exact h2
  by_cases e3 : id = 3
  · rw [e3]; exact h3
  by_cases e8 : id = 8
  · rw [e8]; exact h8
  by_cases e9 : id = 9
  · rw [e9]; exact h9
  by_cases e11 : id = 11
  · rw [e11]; exact h11
  by_cases e17 : id = 17
  · rw [e17]; exact h17
  by_cases e18 : id = 18
  · rw [e18]; exact h18
  by_cases e19 : id = 19
  · rw [e19]; exact h19
  by_cases e21 : id = 21
  · rw [e21]; exact h21
  by_cases e22 : id = 22
  · rw [e22]; exact h22
  by_cases e23 : id = 23
  · rw [e23]; exact h23
  by_cases e24 : id = 24
  · rw [e24]; exact h24
  by_cases e25 : id = 25
  · rw [e25]; exact h25
  by_cases e26 : id = 26
  · rw [e26]; exact h26
  by_cases e28 : id = 28
  · rw [e28]; exact h28
  by_cases e31 : id = 31
  · rw [e31]; exact h31
  by_cases e33 : id = 33
  · rw [e33]; exact h33
  by_cases e34 : id = 34
  · rw [e34]; exact h34
  by_cases e35 : id = 35
  · rw [e35]; exact h35
  by_cases e36 : id = 36
  · rw [e36]; exact h36
  by_cases e37 : id = 37
  · rw [e37]; exact h37
  by_cases e38 : id = 38
  · rw [e38]; exact h38
  by_cases e39 : id = 39
  · rw [e39]; exact h39
  by_cases e40 : id = 40
  · rw [e40]; exact h40
  by_cases e41 : id = 41
  · rw [e41]; exact h41
  by_cases e42 : id = 42
  · rw [e42]; exact h42
  exact hn e1 e2 e3 e8 e9 e11 e17 e18 e19 e21 e22 e23 e24 e25 e26 e28 e31 e33 e34 e35 e36 e37 e38 e39 e40 e41 e42
theorem kd_none (id : Int) (n1 : id ≠ 1) (n2 : id ≠ 2) (n3 : id ≠ 3) (n8 : id ≠ 8) (n9 : id ≠ 9) (n11 : id ≠ 11) (n17 : id ≠ 17) (n18 : id ≠ 18) (n19 : id ≠ 19) (n21 : id ≠ 21) (n22 : id ≠ 22) (n23 : id ≠ 23) (n24 : id ≠ 24) (n25 : id ≠ 25) (n26 : id ≠ 26) (n28 : id ≠ 28) (n31 : id ≠ 31) (n33 : id ≠ 33) (n34 : id ≠ 34) (n35 : id ≠ 35) (n36 : id ≠ 36) (n37 : id ≠ 37) (n38 : id ≠ 38) (n39 : id ≠ 39) (n40 : id ≠ 40) (n41 : id ≠ 41) (n42 : id ≠ 42) : kd id = 0 := by
  unfold kd
  simp only [n1, n2, n3, n8, n9, n11, n17, n18, n19, n21, n22, n23, n24, n25, n26, n28, n31, n33, n34, n35, n36, n37, n38, n39, n40, n41, n42, or_false, if_false]
theorem plc_none (id : Int) (n1 : id ≠ 1) (n2 : id ≠ 2) (n3 : id ≠ 3) (n8 : id ≠ 8) (n9 : id ≠ 9) (n11 : id ≠ 11) (n17 : id ≠ 17) (n18 : id ≠ 18) (n19 : id ≠ 19) (n21 : id ≠ 21) (n22 : id ≠ 22) (n23 : id ≠ 23) (n24 : id ≠ 24) (n25 : id ≠ 25) (n26 : id ≠ 26) (n28 : id ≠ 28) (n31 : id ≠ 31) (n33 : id ≠ 33) (n34 : id ≠ 34) (n35 : id ≠ 35) (n36 : id ≠ 36) (n37 : id ≠ 37) (n38 : id ≠ 38) (n39 : id ≠ 39) (n40 : id ≠ 40) (n41 : id ≠ 41) (n42 : id ≠ 42) : plc id = [] := by
  unfold plc
  simp only [n1, n2, n3, n8, n9, n11, n17, n18, n19, n21, n22, n23, n24, n25, n26, n28, n31, n33, n34, n35, n36, n37, n38, n39, n40, n41, n42, or_false, if_false]
theorem lst_none (id : Int) (n11 : id ≠ 11) (n33 : id ≠ 33) (n35 : id ≠ 35) (n39 : id ≠ 39) : lst id = 0 := by
  unfold lst
  simp only [n11, n33, n35, n39, or_false, if_false]
theorem id_range (id place : Int) (h : mst id place = true) : 1 ≤ id ∧ id ≤ 42 := by
  refine id_cases (P := fun id => mst id place = true → 1 ≤ id ∧ id ≤ 42) id (fun _ => by omega) (fun _ => by omega) (fun _ => by omega) (fun _ => by omega) (fun _ => by omega) (fun _ => by omega) (fun _ => by omega) (fun _ => by omega) (fun _ => by omega) (fun _ => by omega) (fun _ => by omega) (fun _ => by omega) (fun _ => by omega) (fun _ => by omega) (fun _ => by omega) (fun _ => by omega) (fun _ => by omega) (fun _ => by omega) (fun _ => by omega) (fun _ => by omega) (fun _ => by omega) (fun _ => by omega) (fun _ => by omega) (fun _ => by omega) (fun _ => by omega) (fun _ => by omega) (fun _ => by omega) ?_ h
  intro n1 n2 n3 n8 n9 n11 n17 n18 n19 n21 n22 n23 n24 n25 n26 n28 n31 n33 n34 n35 n36 n37 n38 n39 n40 n41 n42 h
  unfold mst at h
  rw [plc_none id n1 n2 n3 n8 n9 n11 n17 n18 n19 n21 n22 n23 n24 n25 n26 n28 n31 n33 n34 n35 n36 n37 n38 n39 n40 n41 n42] at h
  simp at h
theorem not_may_none (id n : Int) (s t : ByteArray) (h : kd id = 0) : may (id, n, s, t) = false := by
  unfold may txo
  simp [h]
theorem tx_len_le (s : ByteArray) (h : s.size ≤ 65535) : (tx s).length ≤ 65537 := by rw [tx_length]; omega
theorem pvb_le (p : Pr) (h : may p = true) : (pvb p).length ≤ 131074 := by
  have hv := (V.put_len p.2.1).2
  unfold may txo at h
  rw [Bool.and_eq_true] at h
  have h2 := h.2
  unfold pvb
  by_cases k1 : kd p.1 = 1
  · rw [if_pos k1]; simp
  rw [if_neg k1]
  by_cases k2 : kd p.1 = 2
  · rw [if_pos k2]; simp
  rw [if_neg k2]
  by_cases k4 : kd p.1 = 4
  · rw [if_pos k4]; simp
  rw [if_neg k4]
  by_cases k5 : kd p.1 = 5
  · rw [if_pos k5]; omega
  rw [if_neg k5]
  by_cases k8 : kd p.1 = 8
  · rw [if_pos k8]
    rw [if_neg (by omega), if_neg (by omega), if_pos k8, Bool.and_eq_true, decide_eq_true_eq, decide_eq_true_eq] at h2
    have a := chk_0 h2.1
    have b := chk_0 h2.2
    rw [sb_length] at a b
    rw [List.length_append, tx_length, tx_length]
    omega
  rw [if_neg k8]
  by_cases k6 : kd p.1 = 6
  · rw [if_pos k6, decide_eq_true_eq] at h2
    have a := chk_0 h2
    rw [sb_length] at a
    rw [tx_length]; omega
  rw [if_neg k6] at h2
  by_cases k7 : kd p.1 = 7
  · rw [if_pos k7, decide_eq_true_eq] at h2
    rw [tx_length]; omega
  rw [if_neg k7, if_neg k8, decide_eq_true_eq] at h2
  exfalso
  revert h2 k1 k2 k4 k5 k6 k7 k8
  unfold kd
  repeat' split
  all_goals omega
theorem pb_le (p : Pr) (h : may p = true) : 1 ≤ (pb p).length ∧ (pb p).length ≤ 131078 := by
  have a := V.put_len p.1
  have b := pvb_le p h
  unfold pb
  rw [List.length_append]; omega
theorem body_snoc (l : List Pr) (p : Pr) : body (l ++ [p]) = body l ++ pb p := by unfold body; simp
theorem take_snoc0 (l : List Pr) (k : Nat) (h : k < l.length) : l.take (k + 1) = l.take k ++ [at0 l k] := by
  unfold at0
  rw [List.take_add_one, List.getD_eq_getElem?_getD, List.getElem?_eq_getElem h]; rfl
theorem body_take (l : List Pr) (k : Nat) (h : k < l.length) : body (l.take (k + 1)) = body (l.take k) ++ pb (at0 l k) := by rw [take_snoc0 l k h, body_snoc]
theorem seen_succ (l : List Pr) (k : Nat) (h : k < l.length) (id : Int) : seen l (k + 1) id = (seen l k id || decide ((at0 l k).1 = id)) := by
  unfold seen
  rw [take_snoc0 l k h, List.any_append]; simp
theorem seen_zero (l : List Pr) (id : Int) : seen l 0 id = false := by unfold seen; simp
/-- what Check tells of a list that fails at a place -/
theorem chkP_bad (place : Int) (l : List Pr) (k : Nat) (hk : k < l.length) (h : okAt place l k = false) : chkP place l = 1 := by
  unfold chkP
  rw [if_neg]
  intro a
  rw [a k hk] at h
  cases h
theorem chkP_ok (place : Int) (l : List Pr) (h : ∀ i, i < l.length → okAt place l i = true) (hl : l.length ≤ 32) : chkP place l = 0 := by
  unfold chkP
  rw [if_pos h, if_pos hl]
theorem chkP_lim (place : Int) (l : List Pr) (h : ∀ i, i < l.length → okAt place l i = true) (hl : 32 < l.length) : chkP place l = 2 := by
  unfold chkP
  rw [if_pos h, if_neg (by omega)]
/-- nothing fails ahead of the place k -/
def okTo (place : Int) (l : List Pr) (k : Nat) : Prop := ∀ i, i < k → okAt place l i = true
theorem okTo_zero (place : Int) (l : List Pr) : okTo place l 0 := fun i h => absurd h (Nat.not_lt_zero i)
theorem okTo_succ {place : Int} {l : List Pr} {k : Nat} (h : okTo place l k) (h' : okAt place l k = true) : okTo place l (k + 1) := fun i hi => by
  rcases Nat.lt_or_ge i k with a | a
  · exact h i a
  · obtain rfl : i = k := by omega
    exact h'
theorem okAt_may {place : Int} {l : List Pr} {k : Nat} (h : okAt place l k = true) : may (at0 l k) = true ∧ mst (at0 l k).1 place = true := by
  unfold okAt at h
  rw [Bool.and_eq_true, Bool.and_eq_true] at h
  exact ⟨h.1.2, h.1.1⟩
theorem body_le (l : List Pr) (place : Int) : ∀ k, k ≤ l.length → okTo place l k → (body (l.take k)).length ≤ k * 131078 := by
  intro k
  induction k with
  | zero => intro _ _; simp [body]
  | succ k ih =>
    intro hk ho
    have a := ih (by omega) (fun i hi => ho i (by omega))
    have b := (pb_le _ (okAt_may (ho k (by omega))).1).2
    rw [body_take l k (by omega), List.length_append]
    omega
end Go.Proofs.YtpfpollejhdbgaaDoor
/- Proved here: what prop.shapeOf tells of any ID. Helper contracts. -/
namespace Go.Proofs.YtpfpollejhdbgaaDoor
open Go.RowKit
set_option maxRecDepth 100000

def frm (id : Int) : Int := if kd id = 1 ∨ kd id = 2 ∨ kd id = 4 then 1 else if kd id = 5 then 2 else if kd id = 6 then 3 else if kd id = 7 then 4 else if kd id = 8 then 5 else 0
def wid (id : Int) : Int := if kd id = 1 ∨ kd id = 2 ∨ kd id = 4 then kd id else 0
def shv (id : Int) : Value := .agg #[.int .i64 (frm id), .int .i64 (wid id), .int .i64 (lst id), .int .i64 (mx id)]
theorem shv_none (id : Int) (hk : kd id = 0) (hl : lst id = 0) : shv id = .agg #[.int .i64 0, .int .i64 0, .int .i64 0, .int .i64 0] := by
  simp [shv, frm, wid, mx, hk, hl]
set_option maxHeartbeats 40000000 in
theorem shape_any (id : Int) (w : World) : Calls Tryd.prog 55 #[.int .i64 id] w fun e w' => e = .returned (shv id) ∧ Below w.heap.size w w' := by
  refine id_cases (P := fun id => Calls Tryd.prog 55 #[.int .i64 id] w fun e w' => e = .returned (shv id) ∧ Below w.heap.size w w') id ?_ ?_ ?_ ?_ ?_ ?_ ?_ ?_ ?_ ?_ ?_ ?_ ?_ ?_ ?_ ?_ ?_ ?_ ?_ ?_ ?_ ?_ ?_ ?_ ?_ ?_ ?_ ?none
  case none =>
    intro n1 n2 n3 n8 n9 n11 n17 n18 n19 n21 n22 n23 n24 n25 n26 n28 n31 n33 n34 n35 n36 n37 n38 n39 n40 n41 n42
    rw [shv_none id (kd_none id n1 n2 n3 n8 n9 n11 n17 n18 n19 n21 n22 n23 n24 n25 n26 n28 n31 n33 n34 n35 n36 n37 n38 n39 n40 n41 n42) (lst_none id n11 n33 n35 n39)]
    have b1 : (id == 1) = false := beq_eq_false_iff_ne.2 n1
    have b2 : (id == 2) = false := beq_eq_false_iff_ne.2 n2
    have b3 : (id == 3) = false := beq_eq_false_iff_ne.2 n3
    have b8 : (id == 8) = false := beq_eq_false_iff_ne.2 n8
    have b9 : (id == 9) = false := beq_eq_false_iff_ne.2 n9
    have b11 : (id == 11) = false := beq_eq_false_iff_ne.2 n11
    have b17 : (id == 17) = false := beq_eq_false_iff_ne.2 n17
    have b18 : (id == 18) = false := beq_eq_false_iff_ne.2 n18
    have b19 : (id == 19) = false := beq_eq_false_iff_ne.2 n19
    have b21 : (id == 21) = false := beq_eq_false_iff_ne.2 n21
    have b22 : (id == 22) = false := beq_eq_false_iff_ne.2 n22
    have b23 : (id == 23) = false := beq_eq_false_iff_ne.2 n23
    have b24 : (id == 24) = false := beq_eq_false_iff_ne.2 n24
    have b25 : (id == 25) = false := beq_eq_false_iff_ne.2 n25
    have b26 : (id == 26) = false := beq_eq_false_iff_ne.2 n26
    have b28 : (id == 28) = false := beq_eq_false_iff_ne.2 n28
    have b31 : (id == 31) = false := beq_eq_false_iff_ne.2 n31
    have b33 : (id == 33) = false := beq_eq_false_iff_ne.2 n33
    have b34 : (id == 34) = false := beq_eq_false_iff_ne.2 n34
    have b35 : (id == 35) = false := beq_eq_false_iff_ne.2 n35
    have b36 : (id == 36) = false := beq_eq_false_iff_ne.2 n36
    have b37 : (id == 37) = false := beq_eq_false_iff_ne.2 n37
    have b38 : (id == 38) = false := beq_eq_false_iff_ne.2 n38
    have b39 : (id == 39) = false := beq_eq_false_iff_ne.2 n39
    have b40 : (id == 40) = false := beq_eq_false_iff_ne.2 n40
    have b41 : (id == 41) = false := beq_eq_false_iff_ne.2 n41
    have b42 : (id == 42) = false := beq_eq_false_iff_ne.2 n42
    clear n1 n2 n3 n8 n9 n11 n17 n18 n19 n21 n22 n23 n24 n25 n26 n28 n31 n33 n34 n35 n36 n37 n38 n39 n40 n41 n42
    go_enter Tryd.func55, Tryd.ntmps55
    go_wp2
    go_returns
    refine ⟨?_, ?_⟩
    · rfl
    · go_grown
  all_goals
    go_enter Tryd.func55, Tryd.ntmps55
    go_wp2
    go_returns
    refine ⟨?_, ?_⟩
    · kernel_rfl
    · go_grown
end Go.Proofs.YtpfpollejhdbgaaDoor
/- Proved here: what (prop.shape).fits and prop.mayRepeat tell. Helper contracts. -/
namespace Go.Proofs.YtpfpollejhdbgaaDoor
open Go.RowKit
set_option maxRecDepth 100000

def fitB (f lo hi n : Int) (s t : ByteArray) : Bool := decide (lo ≤ n) && decide (n ≤ hi) && (if f = 5 then true else if f = 3 ∨ f = 4 then emp t else emp s && emp t)
theorem kd_cases (id : Int) : kd id = 0 ∨ kd id = 1 ∨ kd id = 2 ∨ kd id = 4 ∨ kd id = 5 ∨ kd id = 6 ∨ kd id = 7 ∨ kd id = 8 := by
  unfold kd
  repeat' split
  all_goals omega
theorem fit_eq (id n : Int) (s t : ByteArray) : fit (id, n, s, t) = fitB (frm id) (lst id) (mx id) n s t := by
  unfold fit fitB frm
  rcases kd_cases id with h | h | h | h | h | h | h | h <;> simp [h]
abbrev FitPost (f lo hi n : Int) (s t : ByteArray) (w : World) (e : Ending) (w' : World) : Prop := e = .returned (.bool (fitB f lo hi n s t)) ∧ Below w.heap.size w w'
theorem fits_any (f wd lo hi id n : Int) (s t : ByteArray) (w : World) :
    Calls Tryd.prog 56 #[.agg #[.int .i64 f, .int .i64 wd, .int .i64 lo, .int .i64 hi], .agg #[.int .i64 id, .int .i64 n, .string s, .string t]] w (FitPost f lo hi n s t w) := by
  unfold FitPost
  by_cases h1 : n < lo
  · have hm : Hid (false = fitB f lo hi n s t) := by show _ = _; unfold fitB; rw [decide_eq_false (by omega : ¬ lo ≤ n)]; rfl
    go_enter Tryd.func56, Tryd.ntmps56
    go_wp2
    go_ret
    exact ⟨ret_bool (unhide hm), by go_grown⟩
  by_cases h2 : hi < n
  · have hm : Hid (false = fitB f lo hi n s t) := by show _ = _; unfold fitB; rw [decide_eq_false (by omega : ¬ n ≤ hi), Bool.and_false]; rfl
    go_enter Tryd.func56, Tryd.ntmps56
    go_wp2
    go_ret
    exact ⟨ret_bool (unhide hm), by go_grown⟩
  have hg : Hid (fitB f lo hi n s t = (if f = 5 then true else if f = 3 ∨ f = 4 then emp t else emp s && emp t)) := by
    show _ = _; unfold fitB; rw [decide_eq_true (by omega : lo ≤ n), decide_eq_true (by omega : n ≤ hi)]; rfl
  by_cases f5 : f = 5
  · have hm : Hid (true = fitB f lo hi n s t) := by show _ = _; rw [unhide hg, if_pos f5]
    subst f5
    go_enter Tryd.func56, Tryd.ntmps56
    go_wp2
    go_ret
    exact ⟨ret_bool (unhide hm), by go_grown⟩
  by_cases f3 : f = 3
  · have hm : Hid (fitB f lo hi n s t = emp t) := by show _ = _; rw [unhide hg, if_neg f5, if_pos (.inl f3)]
    subst f3
    clear hg f5
    go_enter Tryd.func56, Tryd.ntmps56
    go_wp2
    go_ret
    exact ⟨ret_bool (unhide hm).symm, by go_grown⟩
  by_cases f4 : f = 4
  · have hm : Hid (fitB f lo hi n s t = emp t) := by show _ = _; rw [unhide hg, if_neg f5, if_pos (.inr f4)]
    subst f4
    clear hg f5 f3
    go_enter Tryd.func56, Tryd.ntmps56
    go_wp2
    go_ret
    exact ⟨ret_bool (unhide hm).symm, by go_grown⟩
  have hm : Hid (fitB f lo hi n s t = (emp s && emp t)) := by show _ = _; rw [unhide hg, if_neg f5, if_neg (by omega)]
  have b5 : (f == 5) = false := beq_eq_false_iff_ne.2 f5
  have b4 : (f == 4) = false := beq_eq_false_iff_ne.2 f4
  have b3 : (f == 3) = false := beq_eq_false_iff_ne.2 f3
  clear hg f5 f4 f3
  by_cases hs : s.toList.isEmpty = true
  · have hm' : Hid (fitB f lo hi n s t = emp t) := by show _ = _; rw [unhide hm]; show (s.toList.isEmpty && _) = _; rw [hs]; rfl
    clear hm
    go_enter Tryd.func56, Tryd.ntmps56
    go_wp2
    go_ret
    exact ⟨ret_bool (unhide hm').symm, by go_grown⟩
  · have hs' : s.toList.isEmpty = false := by simpa using hs
    have hm' : Hid (false = fitB f lo hi n s t) := by show _ = _; rw [unhide hm]; show _ = (s.toList.isEmpty && _); rw [hs']; rfl
    clear hm hs
    go_enter Tryd.func56, Tryd.ntmps56
    go_wp2
    go_ret
    exact ⟨ret_bool (unhide hm'), by go_grown⟩
theorem repeat_any (id place : Int) (w : World) : Calls Tryd.prog 57 #[.int .i64 id, .int .i64 place] w fun e w' => e = .returned (.bool (rep id place)) ∧ w' = w := by
  by_cases h1 : id = 38
  · subst h1
    go_enter Tryd.func57, Tryd.ntmps57
    go_wp2
    go_ret
    exact ⟨rfl, rfl⟩
  by_cases h2 : id = 11
  · subst h2
    go_enter Tryd.func57, Tryd.ntmps57
    go_wp2
    go_ret
    exact ⟨rfl, rfl⟩
  · have hm : Hid (false = rep id place) := by show _ = _; unfold rep; simp [h1, h2]
    have b1 : (id == 38) = false := beq_eq_false_iff_ne.2 h1
    have b2 : (id == 11) = false := beq_eq_false_iff_ne.2 h2
    go_enter Tryd.func57, Tryd.ntmps57
    go_wp2
    go_ret
    exact ⟨ret_bool (unhide hm), rfl⟩
theorem fits_use (f wd lo hi id n : Int) (s t : ByteArray) (w : World) :
    Calls Tryd.prog 56 #[.agg #[.int .i64 f, .int .i64 wd, .int .i64 lo, .int .i64 hi], .agg #[.int .i64 id, .int .i64 n, .string s, .string t]] w fun e w' => (∃ b : Bool, e = .returned (.bool b) ∧ Hid (b = fitB f lo hi n s t)) ∧ Below w.heap.size w w' := by
  refine (fits_any f wd lo hi id n s t w).mono ?_
  rintro e w' ⟨rfl, hb⟩
  exact ⟨⟨_, rfl, rfl⟩, hb⟩
end Go.Proofs.YtpfpollejhdbgaaDoor
/- Proved here: slices.Index, slices.Contains, prop.oneOf and dovecoteref0.In tell whether a number stands in a slice of numbers. Helper contracts. -/
namespace Go.Proofs.YtpfpollejhdbgaaDoor
open Go.RowKit
set_option maxRecDepth 100000

/-- the value v reads in the world w as the numbers xs -/
def Ints (w : World) (v : Value) (xs : List Int) : Prop :=
  ∃ ao cap, v = .slice ao xs.length cap ∧ xs.length ≤ maxLen ∧ (xs = [] ∨ ∃ b off, ao = some ⟨b, off, none⟩ ∧ ∀ j, j < xs.length → w.cell? ⟨b, off + j, none⟩ = some (.int .i64 (xs.getD j 0)))
theorem ints_lit (w : World) (xs : List Int) (n : Nat) (hn : xs.length = n) (h : n ≤ 100) (t : TypeId) : Ints (w.alloc (.cells (xs.map (Value.int .i64)).toArray t)) (.slice (some ⟨w.heap.size, 0, none⟩) n n) xs := by
  subst hn
  refine ⟨_, _, rfl, by unfold maxLen; omega, .inr ⟨_, _, rfl, fun j hj => ?_⟩⟩
  rw [World.cell?_alloc_at _ _ _ _ rfl]
  simp [hj]
theorem mem_getD (xs : List Int) (v : Int) : (∃ j, j < xs.length ∧ xs.getD j 0 = v) ↔ v ∈ xs := by
  rw [List.mem_iff_getElem]
  constructor
  · rintro ⟨j, hj, h⟩; exact ⟨j, hj, by rw [List.getD_eq_getElem?_getD, List.getElem?_eq_getElem hj] at h; exact h⟩
  · rintro ⟨j, hj, h⟩; exact ⟨j, hj, by rw [List.getD_eq_getElem?_getD, List.getElem?_eq_getElem hj]; exact h⟩

set_option maxHeartbeats 1000000 in
theorem index_core (b off n cap : Nat) (f : Nat → Int) (v : Int) (w : World) (hn : n ≤ maxLen) (hf : ∀ j, j < n → w.cell? ⟨b, off + j, none⟩ = some (.int .i64 (f j))) :
    Calls Tryd.prog 86 #[.slice (some ⟨b, off, none⟩) n cap, .int .i64 v] w fun e w' => (∃ r : Int, e = .returned (.int .i64 r) ∧ (0 ≤ r ↔ ∃ j, j < n ∧ f j = v)) ∧ w' = w := by
  unfold maxLen at hn
  have HF := hide hf
  clear hf
  go_enter Tryd.func86, Tryd.ntmps86
  go_wp2
  go_loop [8] (fun i => ∃ k : Nat, k ≤ n ∧ i = .int .i64 k ∧ Hid (∀ j, j < k → f j ≠ v)) (fun i => n - (intOf i).toNat)
  case atStart => exact ⟨0, Nat.zero_le _, rfl, fun j hj => absurd hj (Nat.not_lt_zero j)⟩
  case round =>
    obtain ⟨k, hk, rfl, HA⟩ := hrel
    by_cases hlt : k < n
    · have hfk := (unhide HF) k hlt
      generalize hx : f k = x at hfk
      have HX := hide hx
      clear hx
      by_cases hxy : v = x
      · have hb : (v == x) = true := beq_iff_eq.2 hxy
        have HE := hide hxy
        clear hxy
        go_wp2
        go_ret
        exact ⟨⟨_, rfl, fun _ => ⟨k, hlt, (unhide HX).trans (unhide HE).symm⟩, fun _ => by omega⟩, rfl⟩
      · have hb : (v == x) = false := beq_eq_false_iff_ne.2 hxy
        have HE := hide hxy
        clear hxy
        go_wp2
        go_round
        case rel => exact ⟨k + 1, by omega, by go_num, fun j hj => by
          rcases Nat.lt_succ_iff_lt_or_eq.1 hj with h | h
          · exact (unhide HA) j h
          · rw [h, unhide HX]; exact fun h => (unhide HE) h.symm⟩
        case measure => simp [intOf]; omega
    · go_wp2
      go_ret
      exact ⟨⟨_, rfl, fun h => absurd h (by omega), fun ⟨j, hj, h⟩ => absurd h ((unhide HA) j (by omega))⟩, rfl⟩
theorem index_nil (ao : Option Addr) (cap : Nat) (v : Int) (w : World) : Calls Tryd.prog 86 #[.slice ao 0 cap, .int .i64 v] w fun e w' => e = .returned (.int .i64 (-1)) ∧ w' = w := by
  go_enter Tryd.func86, Tryd.ntmps86
  go_wp2
  refine wp_loop_rounds 1 ?_
  rw [rounds_succ]
  go_wp2
  go_ret
  exact ⟨rfl, rfl⟩
theorem index_any (vx : Value) (xs : List Int) (v : Int) (w : World) (h : Ints w vx xs) :
    Calls Tryd.prog 86 #[vx, .int .i64 v] w fun e w' => (∃ r : Int, e = .returned (.int .i64 r) ∧ Hid (decide (0 ≤ r) = decide (v ∈ xs))) ∧ w' = w := by
  obtain ⟨ao, cap, rfl, hl, hcase⟩ := h
  rcases hcase with rfl | ⟨b, off, rfl, hc⟩
  · refine (index_nil ao cap v w).mono ?_
    rintro e w' ⟨rfl, rfl⟩
    exact ⟨⟨_, rfl, by show decide _ = decide _; simp⟩, rfl⟩
  · refine (index_core b off xs.length cap (fun j => xs.getD j 0) v w hl hc).mono ?_
    rintro e w' ⟨⟨r, rfl, hr⟩, rfl⟩
    rw [mem_getD] at hr
    exact ⟨⟨r, rfl, by show decide _ = decide _; rw [decide_eq_decide]; exact hr⟩, rfl⟩
theorem oneOf_any (vx : Value) (xs : List Int) (v : Int) (w : World) (h : Ints w vx xs) :
    Calls Tryd.prog 67 #[.int .i64 v, vx] w fun e w' => e = .returned (.bool (decide (v ∈ xs))) ∧ w' = w := by
  have H := hide h
  clear h
  have hc : Calls Tryd.prog 82 #[vx, .int .i64 v] w fun e w' => e = .returned (.bool (decide (v ∈ xs))) ∧ w' = w := by
    go_enter Tryd.func82, Tryd.ntmps82
    go_wp2_with (go_at_call 86; refine (index_any vx xs v _ (unhide H)).mono ?_; rintro e w' ⟨⟨r, rfl, hr⟩, rfl⟩)
    go_ret
    exact ⟨ret_bool (unhide hr), rfl⟩
  go_enter Tryd.func67, Tryd.ntmps67
  go_wp2_with (go_at_call 82; refine hc.mono ?_; rintro e w' ⟨rfl, rfl⟩)
  go_ret
  exact ⟨rfl, rfl⟩
theorem oneOf_use (vx : Value) (xs : List Int) (v : Int) (w : World) (h : Ints w vx xs) :
    Calls Tryd.prog 67 #[.int .i64 v, vx] w fun e w' => (∃ b : Bool, e = .returned (.bool b) ∧ Hid (b = decide (v ∈ xs))) ∧ w' = w := by
  refine (oneOf_any vx xs v w h).mono ?_
  rintro e w' ⟨rfl, rfl⟩
  exact ⟨⟨_, rfl, rfl⟩, rfl⟩

set_option maxHeartbeats 1000000 in
theorem in_core (b off n cap : Nat) (f : Nat → Int) (v : Int) (w : World) (hn : n ≤ maxLen) (hf : ∀ j, j < n → w.cell? ⟨b, off + j, none⟩ = some (.int .i64 (f j))) :
    Calls Tryd.prog 25 #[.slice (some ⟨b, off, none⟩) n cap, .int .i64 v] w fun e w' => (∃ r : Int, e = .returned (.int .i64 r) ∧ (0 ≤ r ↔ ∃ j, j < n ∧ f j = v)) ∧ w' = w := by
  unfold maxLen at hn
  have HF := hide hf
  clear hf
  go_enter Tryd.func25, Tryd.ntmps25
  go_wp2
  go_loop [5] (fun i => ∃ k : Nat, k ≤ n ∧ i = .int .i64 k ∧ Hid (∀ j, j < k → f j ≠ v)) (fun i => n - (intOf i).toNat)
  case atStart => exact ⟨0, Nat.zero_le _, rfl, fun j hj => absurd hj (Nat.not_lt_zero j)⟩
  case round =>
    obtain ⟨k, hk, rfl, HA⟩ := hrel
    by_cases hlt : k < n
    · have hfk := (unhide HF) k hlt
      generalize hx : f k = x at hfk
      have HX := hide hx
      clear hx
      by_cases hxy : x = v
      · have hb : (x == v) = true := beq_iff_eq.2 hxy
        have HE := hide hxy
        clear hxy
        go_wp2
        go_ret
        exact ⟨⟨_, rfl, fun _ => ⟨k, hlt, (unhide HX).trans (unhide HE)⟩, fun _ => by omega⟩, rfl⟩
      · have hb : (x == v) = false := beq_eq_false_iff_ne.2 hxy
        have HE := hide hxy
        clear hxy
        go_wp2
        go_round
        case rel => exact ⟨k + 1, by omega, by go_num, fun j hj => by
          rcases Nat.lt_succ_iff_lt_or_eq.1 hj with h | h
          · exact (unhide HA) j h
          · rw [h, unhide HX]; exact unhide HE⟩
        case measure => simp [intOf]; omega
    · go_wp2
      go_ret
      exact ⟨⟨_, rfl, fun h => absurd h (by omega), fun ⟨j, hj, h⟩ => absurd h ((unhide HA) j (by omega))⟩, rfl⟩
theorem in_nil (ao : Option Addr) (cap : Nat) (v : Int) (w : World) : Calls Tryd.prog 25 #[.slice ao 0 cap, .int .i64 v] w fun e w' => e = .returned (.int .i64 (-1)) ∧ w' = w := by
  go_enter Tryd.func25, Tryd.ntmps25
  go_wp2
  refine wp_loop_rounds 1 ?_
  rw [rounds_succ]
  go_wp2
  go_ret
  exact ⟨rfl, rfl⟩
theorem in_any (vx : Value) (xs : List Int) (v : Int) (w : World) (h : Ints w vx xs) :
    Calls Tryd.prog 25 #[vx, .int .i64 v] w fun e w' => (∃ r : Int, e = .returned (.int .i64 r) ∧ Hid (decide (r < 0) = !decide (v ∈ xs))) ∧ w' = w := by
  have key : ∀ r : Int, (0 ≤ r ↔ v ∈ xs) → Hid (decide (r < 0) = !decide (v ∈ xs)) := fun r hr => by
    show decide _ = !decide _
    by_cases hm : v ∈ xs
    · have := hr.2 hm
      simp [hm]; omega
    · have : ¬ 0 ≤ r := fun h => hm (hr.1 h)
      simp [hm]; omega
  obtain ⟨ao, cap, rfl, hl, hcase⟩ := h
  rcases hcase with rfl | ⟨b, off, rfl, hc⟩
  · refine (in_nil ao cap v w).mono ?_
    rintro e w' ⟨rfl, rfl⟩
    exact ⟨⟨_, rfl, key _ (by simp)⟩, rfl⟩
  · refine (in_core b off xs.length cap (fun j => xs.getD j 0) v w hl hc).mono ?_
    rintro e w' ⟨⟨r, rfl, hr⟩, rfl⟩
    rw [mem_getD] at hr
    exact ⟨⟨r, rfl, key r hr⟩, rfl⟩
end Go.Proofs.YtpfpollejhdbgaaDoor
/- Proved here: prop.mayStand tells whether an ID may stand at a place, for any of both. Helper contracts. -/
namespace Go.Proofs.YtpfpollejhdbgaaDoor
open Go.RowKit
set_option maxRecDepth 100000

/-- mayStand's answer at one ID -/
def StandPost (id place : Int) (w : World) (e : Ending) (w' : World) : Prop := e = .returned (.bool (mst id place)) ∧ Below w.heap.size w w'
set_option maxHeartbeats 4000000 in
theorem stand_1 (place : Int) (w : World) : Calls Tryd.prog 54 #[.int .i64 1, .int .i64 place] w (StandPost 1 place w) := by
  unfold StandPost
  go_enter Tryd.func54, Tryd.ntmps54
  go_wp2_with (go_at_call 67; refine (oneOf_use _ [3, 16] place _ (ints_lit _ [3, 16] 2 rfl (by omega) 3)).mono ?_; rintro e w' ⟨⟨b, rfl, hb⟩, rfl⟩)
  go_ret
  exact ⟨ret_bool (unhide hb), by go_grown⟩
set_option maxHeartbeats 4000000 in
theorem stand_2 (place : Int) (w : World) : Calls Tryd.prog 54 #[.int .i64 2, .int .i64 place] w (StandPost 2 place w) := by
  unfold StandPost
  go_enter Tryd.func54, Tryd.ntmps54
  go_wp2_with (go_at_call 67; refine (oneOf_use _ [3, 16] place _ (ints_lit _ [3, 16] 2 rfl (by omega) 3)).mono ?_; rintro e w' ⟨⟨b, rfl, hb⟩, rfl⟩)
  go_ret
  exact ⟨ret_bool (unhide hb), by go_grown⟩
set_option maxHeartbeats 4000000 in
theorem stand_3 (place : Int) (w : World) : Calls Tryd.prog 54 #[.int .i64 3, .int .i64 place] w (StandPost 3 place w) := by
  unfold StandPost
  go_enter Tryd.func54, Tryd.ntmps54
  go_wp2_with (go_at_call 67; refine (oneOf_use _ [3, 16] place _ (ints_lit _ [3, 16] 2 rfl (by omega) 3)).mono ?_; rintro e w' ⟨⟨b, rfl, hb⟩, rfl⟩)
  go_ret
  exact ⟨ret_bool (unhide hb), by go_grown⟩
set_option maxHeartbeats 4000000 in
theorem stand_8 (place : Int) (w : World) : Calls Tryd.prog 54 #[.int .i64 8, .int .i64 place] w (StandPost 8 place w) := by
  unfold StandPost
  go_enter Tryd.func54, Tryd.ntmps54
  go_wp2_with (go_at_call 67; refine (oneOf_use _ [3, 16] place _ (ints_lit _ [3, 16] 2 rfl (by omega) 3)).mono ?_; rintro e w' ⟨⟨b, rfl, hb⟩, rfl⟩)
  go_ret
  exact ⟨ret_bool (unhide hb), by go_grown⟩
set_option maxHeartbeats 4000000 in
theorem stand_9 (place : Int) (w : World) : Calls Tryd.prog 54 #[.int .i64 9, .int .i64 place] w (StandPost 9 place w) := by
  unfold StandPost
  go_enter Tryd.func54, Tryd.ntmps54
  go_wp2_with (go_at_call 67; refine (oneOf_use _ [3, 16] place _ (ints_lit _ [3, 16] 2 rfl (by omega) 3)).mono ?_; rintro e w' ⟨⟨b, rfl, hb⟩, rfl⟩)
  go_ret
  exact ⟨ret_bool (unhide hb), by go_grown⟩
set_option maxHeartbeats 4000000 in
theorem stand_11 (place : Int) (w : World) : Calls Tryd.prog 54 #[.int .i64 11, .int .i64 place] w (StandPost 11 place w) := by
  unfold StandPost
  go_enter Tryd.func54, Tryd.ntmps54
  go_wp2_with (go_at_call 67; refine (oneOf_use _ [3, 8] place _ (ints_lit _ [3, 8] 2 rfl (by omega) 3)).mono ?_; rintro e w' ⟨⟨b, rfl, hb⟩, rfl⟩)
  go_ret
  exact ⟨ret_bool (unhide hb), by go_grown⟩
set_option maxHeartbeats 4000000 in
theorem stand_17 (place : Int) (w : World) : Calls Tryd.prog 54 #[.int .i64 17, .int .i64 place] w (StandPost 17 place w) := by
  unfold StandPost
  go_enter Tryd.func54, Tryd.ntmps54
  go_wp2_with (go_at_call 67; refine (oneOf_use _ [1, 2, 14] place _ (ints_lit _ [1, 2, 14] 3 rfl (by omega) 3)).mono ?_; rintro e w' ⟨⟨b, rfl, hb⟩, rfl⟩)
  go_ret
  exact ⟨ret_bool (unhide hb), by go_grown⟩
set_option maxHeartbeats 4000000 in
theorem stand_18 (place : Int) (w : World) : Calls Tryd.prog 54 #[.int .i64 18, .int .i64 place] w (StandPost 18 place w) := by
  unfold StandPost
  have hm : Hid (mst 18 place = (place == 2)) := by
    show mst 18 place = (place == 2)
    unfold mst
    rw [show plc 18 = [2] from rfl]
    simp only [List.mem_singleton]
    rfl
  go_enter Tryd.func54, Tryd.ntmps54
  go_wp2
  go_ret
  exact ⟨ret_bool (unhide hm).symm, by go_grown⟩
set_option maxHeartbeats 4000000 in
theorem stand_19 (place : Int) (w : World) : Calls Tryd.prog 54 #[.int .i64 19, .int .i64 place] w (StandPost 19 place w) := by
  unfold StandPost
  have hm : Hid (mst 19 place = (place == 2)) := by
    show mst 19 place = (place == 2)
    unfold mst
    rw [show plc 19 = [2] from rfl]
    simp only [List.mem_singleton]
    rfl
  go_enter Tryd.func54, Tryd.ntmps54
  go_wp2
  go_ret
  exact ⟨ret_bool (unhide hm).symm, by go_grown⟩
set_option maxHeartbeats 4000000 in
theorem stand_21 (place : Int) (w : World) : Calls Tryd.prog 54 #[.int .i64 21, .int .i64 place] w (StandPost 21 place w) := by
  unfold StandPost
  go_enter Tryd.func54, Tryd.ntmps54
  go_wp2_with (go_at_call 67; refine (oneOf_use _ [1, 2, 15] place _ (ints_lit _ [1, 2, 15] 3 rfl (by omega) 3)).mono ?_; rintro e w' ⟨⟨b, rfl, hb⟩, rfl⟩)
  go_ret
  exact ⟨ret_bool (unhide hb), by go_grown⟩
set_option maxHeartbeats 4000000 in
theorem stand_22 (place : Int) (w : World) : Calls Tryd.prog 54 #[.int .i64 22, .int .i64 place] w (StandPost 22 place w) := by
  unfold StandPost
  go_enter Tryd.func54, Tryd.ntmps54
  go_wp2_with (go_at_call 67; refine (oneOf_use _ [1, 2, 15] place _ (ints_lit _ [1, 2, 15] 3 rfl (by omega) 3)).mono ?_; rintro e w' ⟨⟨b, rfl, hb⟩, rfl⟩)
  go_ret
  exact ⟨ret_bool (unhide hb), by go_grown⟩
set_option maxHeartbeats 4000000 in
theorem stand_23 (place : Int) (w : World) : Calls Tryd.prog 54 #[.int .i64 23, .int .i64 place] w (StandPost 23 place w) := by
  unfold StandPost
  have hm : Hid (mst 23 place = (place == 1)) := by
    show mst 23 place = (place == 1)
    unfold mst
    rw [show plc 23 = [1] from rfl]
    simp only [List.mem_singleton]
    rfl
  go_enter Tryd.func54, Tryd.ntmps54
  go_wp2
  go_ret
  exact ⟨ret_bool (unhide hm).symm, by go_grown⟩
set_option maxHeartbeats 4000000 in
theorem stand_24 (place : Int) (w : World) : Calls Tryd.prog 54 #[.int .i64 24, .int .i64 place] w (StandPost 24 place w) := by
  unfold StandPost
  have hm : Hid (mst 24 place = (place == 16)) := by
    show mst 24 place = (place == 16)
    unfold mst
    rw [show plc 24 = [16] from rfl]
    simp only [List.mem_singleton]
    rfl
  go_enter Tryd.func54, Tryd.ntmps54
  go_wp2
  go_ret
  exact ⟨ret_bool (unhide hm).symm, by go_grown⟩
set_option maxHeartbeats 4000000 in
theorem stand_25 (place : Int) (w : World) : Calls Tryd.prog 54 #[.int .i64 25, .int .i64 place] w (StandPost 25 place w) := by
  unfold StandPost
  have hm : Hid (mst 25 place = (place == 1)) := by
    show mst 25 place = (place == 1)
    unfold mst
    rw [show plc 25 = [1] from rfl]
    simp only [List.mem_singleton]
    rfl
  go_enter Tryd.func54, Tryd.ntmps54
  go_wp2
  go_ret
  exact ⟨ret_bool (unhide hm).symm, by go_grown⟩
set_option maxHeartbeats 4000000 in
theorem stand_26 (place : Int) (w : World) : Calls Tryd.prog 54 #[.int .i64 26, .int .i64 place] w (StandPost 26 place w) := by
  unfold StandPost
  have hm : Hid (mst 26 place = (place == 2)) := by
    show mst 26 place = (place == 2)
    unfold mst
    rw [show plc 26 = [2] from rfl]
    simp only [List.mem_singleton]
    rfl
  go_enter Tryd.func54, Tryd.ntmps54
  go_wp2
  go_ret
  exact ⟨ret_bool (unhide hm).symm, by go_grown⟩
set_option maxHeartbeats 4000000 in
theorem stand_28 (place : Int) (w : World) : Calls Tryd.prog 54 #[.int .i64 28, .int .i64 place] w (StandPost 28 place w) := by
  unfold StandPost
  go_enter Tryd.func54, Tryd.ntmps54
  go_wp2_with (go_at_call 67; refine (oneOf_use _ [2, 14] place _ (ints_lit _ [2, 14] 2 rfl (by omega) 3)).mono ?_; rintro e w' ⟨⟨b, rfl, hb⟩, rfl⟩)
  go_ret
  exact ⟨ret_bool (unhide hb), by go_grown⟩
set_option maxHeartbeats 4000000 in
theorem stand_31 (place : Int) (w : World) : Calls Tryd.prog 54 #[.int .i64 31, .int .i64 place] w (StandPost 31 place w) := by
  unfold StandPost
  go_enter Tryd.func54, Tryd.ntmps54
  go_wp2_with (go_at_call 67; refine (oneOf_use _ [2, 4, 5, 6, 7, 9, 11, 14, 15] place _ (ints_lit _ [2, 4, 5, 6, 7, 9, 11, 14, 15] 9 rfl (by omega) 3)).mono ?_; rintro e w' ⟨⟨b, rfl, hb⟩, rfl⟩)
  go_ret
  exact ⟨ret_bool (unhide hb), by go_grown⟩
set_option maxHeartbeats 4000000 in
theorem stand_33 (place : Int) (w : World) : Calls Tryd.prog 54 #[.int .i64 33, .int .i64 place] w (StandPost 33 place w) := by
  unfold StandPost
  go_enter Tryd.func54, Tryd.ntmps54
  go_wp2_with (go_at_call 67; refine (oneOf_use _ [1, 2] place _ (ints_lit _ [1, 2] 2 rfl (by omega) 3)).mono ?_; rintro e w' ⟨⟨b, rfl, hb⟩, rfl⟩)
  go_ret
  exact ⟨ret_bool (unhide hb), by go_grown⟩
set_option maxHeartbeats 4000000 in
theorem stand_34 (place : Int) (w : World) : Calls Tryd.prog 54 #[.int .i64 34, .int .i64 place] w (StandPost 34 place w) := by
  unfold StandPost
  go_enter Tryd.func54, Tryd.ntmps54
  go_wp2_with (go_at_call 67; refine (oneOf_use _ [1, 2] place _ (ints_lit _ [1, 2] 2 rfl (by omega) 3)).mono ?_; rintro e w' ⟨⟨b, rfl, hb⟩, rfl⟩)
  go_ret
  exact ⟨ret_bool (unhide hb), by go_grown⟩
set_option maxHeartbeats 4000000 in
theorem stand_35 (place : Int) (w : World) : Calls Tryd.prog 54 #[.int .i64 35, .int .i64 place] w (StandPost 35 place w) := by
  unfold StandPost
  have hm : Hid (mst 35 place = (place == 3)) := by
    show mst 35 place = (place == 3)
    unfold mst
    rw [show plc 35 = [3] from rfl]
    simp only [List.mem_singleton]
    rfl
  go_enter Tryd.func54, Tryd.ntmps54
  go_wp2
  go_ret
  exact ⟨ret_bool (unhide hm).symm, by go_grown⟩
set_option maxHeartbeats 4000000 in
theorem stand_36 (place : Int) (w : World) : Calls Tryd.prog 54 #[.int .i64 36, .int .i64 place] w (StandPost 36 place w) := by
  unfold StandPost
  have hm : Hid (mst 36 place = (place == 2)) := by
    show mst 36 place = (place == 2)
    unfold mst
    rw [show plc 36 = [2] from rfl]
    simp only [List.mem_singleton]
    rfl
  go_enter Tryd.func54, Tryd.ntmps54
  go_wp2
  go_ret
  exact ⟨ret_bool (unhide hm).symm, by go_grown⟩
set_option maxHeartbeats 4000000 in
theorem stand_37 (place : Int) (w : World) : Calls Tryd.prog 54 #[.int .i64 37, .int .i64 place] w (StandPost 37 place w) := by
  unfold StandPost
  have hm : Hid (mst 37 place = (place == 2)) := by
    show mst 37 place = (place == 2)
    unfold mst
    rw [show plc 37 = [2] from rfl]
    simp only [List.mem_singleton]
    rfl
  go_enter Tryd.func54, Tryd.ntmps54
  go_wp2
  go_ret
  exact ⟨ret_bool (unhide hm).symm, by go_grown⟩
set_option maxHeartbeats 4000000 in
theorem stand_38 (place : Int) (w : World) : Calls Tryd.prog 54 #[.int .i64 38, .int .i64 place] w (StandPost 38 place w) := by
  unfold StandPost
  by_cases h : 1 ≤ place ∧ place ≤ 11
  · obtain ⟨h1, h2⟩ := h
    have hm : Hid (mst 38 place = true) := by
      show mst 38 place = true
      unfold mst
      rw [decide_eq_true_eq, show plc 38 = [1, 2, 3, 4, 5, 6, 7, 8, 9, 10, 11, 14, 15, 16] from rfl]
      simp only [List.mem_cons]
      omega
    go_enter Tryd.func54, Tryd.ntmps54
    go_wp2
    go_ret
    exact ⟨ret_bool (unhide hm).symm, by go_grown⟩
  · have hm : Hid (mst 38 place = decide (place ∈ [14, 15, 16])) := by
      show mst 38 place = decide (place ∈ [14, 15, 16])
      unfold mst
      rw [decide_eq_decide, show plc 38 = [1, 2, 3, 4, 5, 6, 7, 8, 9, 10, 11, 14, 15, 16] from rfl]
      simp only [List.mem_cons, List.not_mem_nil, or_false]
      constructor <;> intro a <;> omega
    by_cases h1 : 1 ≤ place
    · have h2 : ¬ place ≤ 11 := fun a => h ⟨h1, a⟩
      clear h
      go_enter Tryd.func54, Tryd.ntmps54
      go_wp2_with (go_at_call 67; refine (oneOf_use _ [14, 15, 16] place _ (ints_lit _ [14, 15, 16] 3 rfl (by omega) 3)).mono ?_; rintro e w' ⟨⟨b, rfl, hb⟩, rfl⟩)
      go_ret
      exact ⟨ret_bool ((unhide hb).trans (unhide hm).symm), by go_grown⟩
    · clear h
      go_enter Tryd.func54, Tryd.ntmps54
      go_wp2_with (go_at_call 67; refine (oneOf_use _ [14, 15, 16] place _ (ints_lit _ [14, 15, 16] 3 rfl (by omega) 3)).mono ?_; rintro e w' ⟨⟨b, rfl, hb⟩, rfl⟩)
      go_ret
      exact ⟨ret_bool ((unhide hb).trans (unhide hm).symm), by go_grown⟩
set_option maxHeartbeats 4000000 in
theorem stand_39 (place : Int) (w : World) : Calls Tryd.prog 54 #[.int .i64 39, .int .i64 place] w (StandPost 39 place w) := by
  unfold StandPost
  go_enter Tryd.func54, Tryd.ntmps54
  go_wp2_with (go_at_call 67; refine (oneOf_use _ [1, 2] place _ (ints_lit _ [1, 2] 2 rfl (by omega) 3)).mono ?_; rintro e w' ⟨⟨b, rfl, hb⟩, rfl⟩)
  go_ret
  exact ⟨ret_bool (unhide hb), by go_grown⟩
set_option maxHeartbeats 4000000 in
theorem stand_40 (place : Int) (w : World) : Calls Tryd.prog 54 #[.int .i64 40, .int .i64 place] w (StandPost 40 place w) := by
  unfold StandPost
  have hm : Hid (mst 40 place = (place == 2)) := by
    show mst 40 place = (place == 2)
    unfold mst
    rw [show plc 40 = [2] from rfl]
    simp only [List.mem_singleton]
    rfl
  go_enter Tryd.func54, Tryd.ntmps54
  go_wp2
  go_ret
  exact ⟨ret_bool (unhide hm).symm, by go_grown⟩
set_option maxHeartbeats 4000000 in
theorem stand_41 (place : Int) (w : World) : Calls Tryd.prog 54 #[.int .i64 41, .int .i64 place] w (StandPost 41 place w) := by
  unfold StandPost
  have hm : Hid (mst 41 place = (place == 2)) := by
    show mst 41 place = (place == 2)
    unfold mst
    rw [show plc 41 = [2] from rfl]
    simp only [List.mem_singleton]
    rfl
  go_enter Tryd.func54, Tryd.ntmps54
  go_wp2
  go_ret
  exact ⟨ret_bool (unhide hm).symm, by go_grown⟩
set_option maxHeartbeats 4000000 in
theorem stand_42 (place : Int) (w : World) : Calls Tryd.prog 54 #[.int .i64 42, .int .i64 place] w (StandPost 42 place w) := by
  unfold StandPost
  have hm : Hid (mst 42 place = (place == 2)) := by
    show mst 42 place = (place == 2)
    unfold mst
    rw [show plc 42 = [2] from rfl]
    simp only [List.mem_singleton]
    rfl
  go_enter Tryd.func54, Tryd.ntmps54
  go_wp2
  go_ret
  exact ⟨ret_bool (unhide hm).symm, by go_grown⟩
set_option maxHeartbeats 4000000 in
theorem stand_none (id place : Int) (w : World) (hp : plc id = []) (b1 : (id == 1) = false) (b2 : (id == 2) = false) (b3 : (id == 3) = false) (b8 : (id == 8) = false) (b9 : (id == 9) = false) (b11 : (id == 11) = false) (b17 : (id == 17) = false) (b18 : (id == 18) = false) (b19 : (id == 19) = false) (b21 : (id == 21) = false) (b22 : (id == 22) = false) (b23 : (id == 23) = false) (b24 : (id == 24) = false) (b25 : (id == 25) = false) (b26 : (id == 26) = false) (b28 : (id == 28) = false) (b31 : (id == 31) = false) (b33 : (id == 33) = false) (b34 : (id == 34) = false) (b35 : (id == 35) = false) (b36 : (id == 36) = false) (b37 : (id == 37) = false) (b38 : (id == 38) = false) (b39 : (id == 39) = false) (b40 : (id == 40) = false) (b41 : (id == 41) = false) (b42 : (id == 42) = false) : Calls Tryd.prog 54 #[.int .i64 id, .int .i64 place] w (StandPost id place w) := by
  have hm : Hid (mst id place = false) := by show mst id place = false; unfold mst; rw [hp]; simp
  clear hp
  unfold StandPost
  go_enter Tryd.func54, Tryd.ntmps54
  go_wp2
  go_ret
  exact ⟨ret_bool (unhide hm).symm, by go_grown⟩
theorem stand_any (id place : Int) (w : World) : Calls Tryd.prog 54 #[.int .i64 id, .int .i64 place] w (StandPost id place w) := by
  refine id_cases (P := fun id => Calls Tryd.prog 54 #[.int .i64 id, .int .i64 place] w (StandPost id place w)) id (stand_1 place w) (stand_2 place w) (stand_3 place w) (stand_8 place w) (stand_9 place w) (stand_11 place w) (stand_17 place w) (stand_18 place w) (stand_19 place w) (stand_21 place w) (stand_22 place w) (stand_23 place w) (stand_24 place w) (stand_25 place w) (stand_26 place w) (stand_28 place w) (stand_31 place w) (stand_33 place w) (stand_34 place w) (stand_35 place w) (stand_36 place w) (stand_37 place w) (stand_38 place w) (stand_39 place w) (stand_40 place w) (stand_41 place w) (stand_42 place w) ?_
  intro n1 n2 n3 n8 n9 n11 n17 n18 n19 n21 n22 n23 n24 n25 n26 n28 n31 n33 n34 n35 n36 n37 n38 n39 n40 n41 n42
  exact stand_none id place w (plc_none id n1 n2 n3 n8 n9 n11 n17 n18 n19 n21 n22 n23 n24 n25 n26 n28 n31 n33 n34 n35 n36 n37 n38 n39 n40 n41 n42) (beq_eq_false_iff_ne.2 n1) (beq_eq_false_iff_ne.2 n2) (beq_eq_false_iff_ne.2 n3) (beq_eq_false_iff_ne.2 n8) (beq_eq_false_iff_ne.2 n9) (beq_eq_false_iff_ne.2 n11) (beq_eq_false_iff_ne.2 n17) (beq_eq_false_iff_ne.2 n18) (beq_eq_false_iff_ne.2 n19) (beq_eq_false_iff_ne.2 n21) (beq_eq_false_iff_ne.2 n22) (beq_eq_false_iff_ne.2 n23) (beq_eq_false_iff_ne.2 n24) (beq_eq_false_iff_ne.2 n25) (beq_eq_false_iff_ne.2 n26) (beq_eq_false_iff_ne.2 n28) (beq_eq_false_iff_ne.2 n31) (beq_eq_false_iff_ne.2 n33) (beq_eq_false_iff_ne.2 n34) (beq_eq_false_iff_ne.2 n35) (beq_eq_false_iff_ne.2 n36) (beq_eq_false_iff_ne.2 n37) (beq_eq_false_iff_ne.2 n38) (beq_eq_false_iff_ne.2 n39) (beq_eq_false_iff_ne.2 n40) (beq_eq_false_iff_ne.2 n41) (beq_eq_false_iff_ne.2 n42)
end Go.Proofs.YtpfpollejhdbgaaDoor
/- Proved here: errors.Is at an api.Errno and at an *api.Fault around one, and prop's wrap, fault, few, broken. Helper contracts. -/
namespace Go.Proofs.YtpfpollejhdbgaaDoor
open Go.RowKit Go.Extern.Stop Go.Stop Go.Extern
set_option maxRecDepth 100000

abbrev wrapW (v : Value) (w : World) : World := w.alloc (.cells #[.string ⟨#[112, 114, 111, 112]⟩, v] 81)
theorem wrap_any (t : TypeId) (x : Value) (w : World) : Calls Tryd.prog 31 #[.iface t x] w fun e w' => e = .returned (.iface 79 (.pointer (some ⟨w.heap.size, 0, none⟩))) ∧ w' = wrapW (.iface t x) w := by
  go_enter Tryd.func31, Tryd.ntmps31
  go_wp2
  go_ret
  exact ⟨rfl, rfl⟩
theorem pfault_any (n : Int) (w : World) : Calls Tryd.prog 35 #[.int .i64 n] w fun e w' => e = .returned (.iface 79 (.pointer (some ⟨w.heap.size, 0, none⟩))) ∧ w' = wrapW (.iface 65 (.int .i64 n)) w := by
  go_enter Tryd.func35, Tryd.ntmps35
  go_wp2_with (go_at_call 31; refine (wrap_any _ _ _).mono ?_; rintro e w' ⟨rfl, rfl⟩)
  go_ret
  exact ⟨rfl, rfl⟩
/-- an error value of prop: nil, a Fault around the number, or one around a Fault of below -/
def ErrP (w : World) (v : Value) (n : Int) : Prop :=
  ErrIs w v n ∨ ∃ b c, v = .iface 79 (.pointer (some ⟨b, 0, none⟩)) ∧ w.cell? ⟨b, 1, none⟩ = some (.iface 79 (.pointer (some ⟨c, 0, none⟩))) ∧ w.cell? ⟨c, 1, none⟩ = some (.iface 65 (.int .i64 n))
/-- an error of below: a number, or a Fault around one -/
def Inn (w : World) (v : Value) (n : Int) : Prop := v = .iface 65 (.int .i64 n) ∨ ∃ b, v = .iface 79 (.pointer (some ⟨b, 0, none⟩)) ∧ w.cell? ⟨b, 1, none⟩ = some (.iface 65 (.int .i64 n))
theorem ErrP.below {w w' : World} {v : Value} {n : Int} (h : ErrP w v n) (hb : Below w.heap.size w w') : ErrP w' v n := by
  rcases h with h | ⟨b, c, h1, h2, h3⟩
  · exact .inl (h.below hb)
  · exact .inr ⟨b, c, h1, by rw [hb.cell (p := ⟨b, 1, none⟩) (cell_lt h2)]; exact h2, by rw [hb.cell (p := ⟨c, 1, none⟩) (cell_lt h3)]; exact h3⟩
theorem ErrP.nil (w : World) : ErrP w .nilIface 0 := .inl (.inl ⟨rfl, rfl⟩)
theorem Inn.below {w w' : World} {v : Value} {n : Int} (h : Inn w v n) (hb : Below w.heap.size w w') : Inn w' v n := by
  rcases h with h | ⟨b, h1, h2⟩
  · exact .inl h
  · exact .inr ⟨b, h1, by rw [hb.cell (p := ⟨b, 1, none⟩) (cell_lt h2)]; exact h2⟩
theorem wrap_is (n : Int) (v : Value) (w : World) (h : Inn w v n) : ErrP (wrapW v w) (.iface 79 (.pointer (some ⟨w.heap.size, 0, none⟩))) n := by
  rcases h with rfl | ⟨b, rfl, hc⟩
  · exact .inl (.inr ⟨_, rfl, by simp⟩)
  · exact .inr ⟨_, b, rfl, by simp, by rw [World.cell?_alloc_lt _ _ ⟨b, 1, none⟩ (cell_lt hc)]; exact hc⟩
theorem wrap_below (v : Value) (w : World) : Below w.heap.size w (wrapW v w) := (Below.refl _ _).alloc (Nat.le_refl _) _
/-- fault's answer, as a caller uses it -/
theorem pfault_use (n : Int) (w : World) : Calls Tryd.prog 35 #[.int .i64 n] w fun e w' => ∃ E, e = .returned (.iface 79 E) ∧ Hid (ErrP w' (.iface 79 E) n) ∧ Below w.heap.size w w' := by
  refine (pfault_any n w).mono ?_
  rintro e w' ⟨rfl, rfl⟩
  exact ⟨_, rfl, wrap_is n _ w (.inl rfl), wrap_below _ _⟩
theorem wrap_use (v : Value) (n : Int) (w : World) (h : Inn w v n) : Calls Tryd.prog 31 #[v] w fun e w' => ∃ E, e = .returned (.iface 79 E) ∧ Hid (ErrP w' (.iface 79 E) n) ∧ Below w.heap.size w w' := by
  obtain ⟨t, x, rfl⟩ : ∃ t x, v = .iface t x := by rcases h with rfl | ⟨b, rfl, _⟩ <;> exact ⟨_, _, rfl⟩
  refine (wrap_any t x w).mono ?_
  rintro e w' ⟨rfl, rfl⟩
  exact ⟨_, rfl, wrap_is n _ w h, wrap_below _ _⟩
theorem few_ok (n : Int) (w : World) (h : n ≤ 32) : Calls Tryd.prog 32 #[.int .i64 n] w fun e w' => e = .returned .nilIface ∧ w' = w := by
  go_enter Tryd.func32, Tryd.ntmps32
  go_wp2
  go_ret
  exact ⟨rfl, rfl⟩
theorem few_bad (n : Int) (w : World) (h : 32 < n) : Calls Tryd.prog 32 #[.int .i64 n] w fun e w' => ∃ E, e = .returned (.iface 79 E) ∧ Hid (ErrP w' (.iface 79 E) 2) ∧ Below w.heap.size w w' := by
  go_enter Tryd.func32, Tryd.ntmps32
  go_wp2_with (go_at_call 35; refine (pfault_use 2 _).mono ?_; rintro e w' ⟨E, rfl, hE, hb⟩)
  go_ret
  exact ⟨_, rfl, hE, hb⟩

theorem methodComp (h : Value) (w : World) : (Go.method 277 122 (.agg #[h]) "Comparable").run Tryd.prog w = .ok (117, .agg #[h]) w := by kernel_rfl
theorem compE (w : World) : ((ReflectliteType.method fun t => do Rtype.noPackHeld "Comparable" t; (fun a => Value.bool a.comparable) <$> typeInfo t) #[.agg #[.pointer (some ⟨1, 65, none⟩)]]).run Tryd.prog w = .ok (.bool true) w := by kernel_rfl
theorem noIsF (v : Value) (xT : TypeId) (w : World) : (Instr.typeAssert (.iface 79 v) xT 141 true).run Tryd.prog w = .ok (.tuple #[.nilIface, .bool false]) w := run_typeAssert_lacksB Tryd.underlying141 (by kernel_rfl) (by kernel_rfl) v xT w
theorem noIsE (v : Value) (xT : TypeId) (w : World) : (Instr.typeAssert (.iface 65 v) xT 141 true).run Tryd.prog w = .ok (.tuple #[.nilIface, .bool false]) w := run_typeAssert_lacksB Tryd.underlying141 (by kernel_rfl) (by kernel_rfl) v xT w
theorem noUnwrapE (v : Value) (xT : TypeId) (w : World) : (Instr.typeAssert (.iface 65 v) xT 129 true).run Tryd.prog w = .ok (.tuple #[.nilIface, .bool false]) w := run_typeAssert_lacksB Tryd.underlying129 (by kernel_rfl) (by kernel_rfl) v xT w
theorem noUnwrapsE (v : Value) (xT : TypeId) (w : World) : (Instr.typeAssert (.iface 65 v) xT 131 true).run Tryd.prog w = .ok (.tuple #[.nilIface, .bool false]) w := run_typeAssert_lacksB Tryd.underlying131 (by kernel_rfl) (by kernel_rfl) v xT w

theorem eqE (n : Int) (w : World) : (binOp .eql 33 (.iface 65 (.int .i64 n)) (.iface 65 (.int .i64 1))).run Tryd.prog w = .ok (.bool (n == 1)) w := by kernel_rfl
theorem eqF (v u : Value) (w : World) : (binOp .eql 33 (.iface 79 v) (.iface 65 u)).run Tryd.prog w = .ok (.bool false) w := by kernel_rfl
theorem eqN (t : TypeId) (v : Value) (w : World) : (binOp .eql 33 (.iface t v) .nilIface).run Tryd.prog w = .ok (.bool false) w := by kernel_rfl
set_option maxHeartbeats 4000000 in
theorem is_errno (n : Int) (w : World) : Calls Tryd.prog 73 #[.iface 65 (.int .i64 n), .iface 65 (.int .i64 1), .bool true] w fun e w' => e = .returned (.bool (n == 1)) ∧ w' = w := by
  have nI := noIsE
  have q1 := eqE
  have q2 := eqF
  have nU := noUnwrapE
  have nV := noUnwrapsE
  by_cases h : n = 1
  · subst h
    go_enter Tryd.func73, Tryd.ntmps73
    go_wp2
    refine wp_loop_rounds 1 ?_
    rw [rounds_succ]
    go_wp2
    go_ret
    exact ⟨rfl, rfl⟩
  · have hb : (n == 1) = false := beq_eq_false_iff_ne.2 h
    go_enter Tryd.func73, Tryd.ntmps73
    go_wp2
    refine wp_loop_rounds 1 ?_
    rw [rounds_succ]
    go_wp2
    go_ret
    exact ⟨ret_bool hb.symm, rfl⟩
set_option maxHeartbeats 4000000 in
theorem is_fault (b : Nat) (n : Int) (w : World) (hc : w.cell? ⟨b, 1, none⟩ = some (.iface 65 (.int .i64 n))) : Calls Tryd.prog 73 #[.iface 79 (.pointer (some ⟨b, 0, none⟩)), .iface 65 (.int .i64 1), .bool true] w fun e w' => e = .returned (.bool (n == 1)) ∧ w' = w := by
  have nI := noIsE
  have q1 := eqE
  have q2 := eqF
  have nU := noUnwrapE
  have nV := noUnwrapsE
  have nF := noIsF
  have hU := hasUnwrapF
  have mU := methodUnwrap
  by_cases h : n = 1
  · subst h
    go_enter Tryd.func73, Tryd.ntmps73
    go_wp2
    refine wp_loop_rounds 2 ?_
    rw [rounds_succ]
    go_wp2_with (go_at_call 111; refine (unwrap_any _ _ _ hc).mono ?_; rintro e w' ⟨rfl, rfl⟩)
    rw [rounds_succ]
    go_wp2
    go_ret
    exact ⟨rfl, rfl⟩
  · have hb : (n == 1) = false := beq_eq_false_iff_ne.2 h
    go_enter Tryd.func73, Tryd.ntmps73
    go_wp2
    refine wp_loop_rounds 2 ?_
    rw [rounds_succ]
    go_wp2_with (go_at_call 111; refine (unwrap_any _ _ _ hc).mono ?_; rintro e w' ⟨rfl, rfl⟩)
    rw [rounds_succ]
    go_wp2
    go_ret
    exact ⟨ret_bool hb.symm, rfl⟩
theorem is_inn (v : Value) (n : Int) (w : World) (h : Inn w v n) : Calls Tryd.prog 73 #[v, .iface 65 (.int .i64 1), .bool true] w fun e w' => e = .returned (.bool (n == 1)) ∧ w' = w := by
  rcases h with rfl | ⟨b, rfl, hc⟩
  · exact is_errno n w
  · exact is_fault b n w hc
set_option maxHeartbeats 4000000 in
theorem Is_inn (t : TypeId) (x : Value) (n : Int) (w : World) (h : Inn w (.iface t x) n) : Calls Tryd.prog 59 #[.iface t x, .iface 65 (.int .i64 1)] w fun e w' => e = .returned (.bool (n == 1)) ∧ w' = w := by
  have H := hide h
  clear h
  have hT := @run_callFunc_extern Tryd.prog 72 _ ReflectliteType.typeOf Tryd.func72 (by kernel_rfl) (by kernel_rfl) (by kernel_rfl) (by kernel_rfl)
  have hC := @run_callFunc_extern Tryd.prog 117 _ (ReflectliteType.method fun t => do Rtype.noPackHeld "Comparable" t; pure (.bool (← typeInfo t).comparable)) Tryd.func117 (by kernel_rfl) (by kernel_rfl) (by kernel_rfl) (by kernel_rfl)
  have tO := typeOfE
  have mC := methodComp
  have cE := compE
  go_enter Tryd.func59, Tryd.ntmps59
  go_wp2_with (go_at_call 73; refine (is_inn _ n _ (unhide H)).mono ?_; rintro e w' ⟨rfl, rfl⟩)
  go_ret
  exact ⟨rfl, rfl⟩
theorem broken_use (v : Value) (n : Int) (w : World) (h : Inn w v n) : Calls Tryd.prog 45 #[v] w fun e w' => ∃ E, e = .returned (.iface 79 E) ∧ Hid (ErrP w' (.iface 79 E) 1) ∧ Below w.heap.size w w' := by
  obtain ⟨t, x, rfl⟩ : ∃ t x, v = .iface t x := by rcases h with rfl | ⟨b, rfl, _⟩ <;> exact ⟨_, _, rfl⟩
  have H := hide h
  clear h
  by_cases h : n = 1
  · subst h
    go_enter Tryd.func45, Tryd.ntmps45
    go_wp2_with (first | (go_at_call 59; refine (Is_inn t x 1 _ (unhide H)).mono ?_; rintro e w' ⟨rfl, rfl⟩) | (go_at_call 31; refine (wrap_use _ 1 _ (unhide H)).mono ?_; rintro e w' ⟨E, rfl, hE, hb⟩))
    go_ret
    exact ⟨_, rfl, hE, hb⟩
  · have hb : (n == 1) = false := beq_eq_false_iff_ne.2 h
    go_enter Tryd.func45, Tryd.ntmps45
    go_wp2_with (first | (go_at_call 59; refine (Is_inn t x n _ (unhide H)).mono ?_; rintro e w' ⟨rfl, rfl⟩) | (go_at_call 35; refine (pfault_use 1 _).mono ?_; rintro e w' ⟨E, rfl, hE, hb'⟩))
    go_ret
    exact ⟨_, rfl, hE, hb'⟩
end Go.Proofs.YtpfpollejhdbgaaDoor
