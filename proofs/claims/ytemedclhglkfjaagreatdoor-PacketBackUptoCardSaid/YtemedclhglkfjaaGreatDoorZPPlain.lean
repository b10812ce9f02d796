/- Proved here: what a property is, where it may stand, which bytes it has, as plain functions; helpers that name no program's text. -/
import Derived.Test.YtemedclhglkfjaaGreatDoorA3
import Derived.Test.YtemedclhglkfjaaGreatDoorM11
namespace Go.Proofs.YtemedclhglkfjaaGreatDoor
open Go.RowKit
abbrev Pr := Int × Int × ByteArray × ByteArray
abbrev es : ByteArray := ⟨#[]⟩
abbrev emp (s : ByteArray) : Bool := s.toList.isEmpty
def p0 : Pr := (0,0,es,es)
def kd (id : Int) : Int :=
 if id = 1 \/ id = 23 \/ id = 25 \/ id = 36 \/ id = 37 \/ id = 40 \/ id = 41 \/ id = 42 then 1
 else if id = 19 \/ id = 33 \/ id = 34 \/ id = 35 then 2
 else if id = 2 \/ id = 17 \/ id = 24 \/ id = 39 then 4
 else if id = 11 then 5
 else if id = 3 \/ id = 8 \/ id = 18 \/ id = 21 \/ id = 26 \/ id = 28 \/ id = 31 then 6
 else if id = 9 \/ id = 22 then 7
 else if id = 38 then 8 else 0
def lst (id : Int) : Int := if id = 11 \/ id = 33 \/ id = 35 \/ id = 39 then 1 else 0
def mx (id : Int) : Int := if kd id = 1 then 1 else if kd id = 2 then 65535 else if kd id = 4 then 4294967295 else if kd id = 5 then 268435455 else 0
def plc (id : Int) : List Int :=
 if id = 1 \/ id = 2 \/ id = 3 \/ id = 8 \/ id = 9 then [3,16]
 else if id = 11 then [3,8]
 else if id = 17 then [1,2,14]
 else if id = 18 \/ id = 19 \/ id = 26 \/ id = 36 \/ id = 37 \/ id = 40 \/ id = 41 \/ id = 42 then [2]
 else if id = 21 \/ id = 22 then [1,2,15]
 else if id = 23 \/ id = 25 then [1]
 else if id = 24 then [16]
 else if id = 28 then [2,14]
 else if id = 31 then [2,4,5,6,7,9,11,14,15]
 else if id = 33 \/ id = 34 \/ id = 39 then [1,2]
 else if id = 35 then [3]
 else if id = 38 then [1,2,3,4,5,6,7,8,9,10,11,14,15,16] else []
def mst (id place : Int) : Bool := decide (place ∈ plc id)
def rep (id place : Int) : Bool := decide (id = 38) || (decide (id = 11) && decide (place = 3))
def fit (p : Pr) : Bool := decide (lst p.1 <= p.2.1) && decide (p.2.1 <= mx p.1) &&
 (if kd p.1 = 8 then true else if kd p.1 = 6 \/ kd p.1 = 7 then emp p.2.2.2 else emp p.2.2.1 && emp p.2.2.2)
def txo (p : Pr) : Bool := if kd p.1 = 6 then decide (chk (sb p.2.2.1) = 0) else if kd p.1 = 7 then decide (p.2.2.1.size <= 65535) else if kd p.1 = 8 then decide (chk (sb p.2.2.1) = 0) && decide (chk (sb p.2.2.2) = 0) else decide (kd p.1 ≠ 0)
def may (p : Pr) : Bool := fit p && txo p
def at0 (l : List Pr) (i : Nat) : Pr := l.getD i p0
def seen (l : List Pr) (i : Nat) (id : Int) : Bool := (l.take i).any fun q => decide (q.1 = id)
def okAt (place : Int) (l : List Pr) (i : Nat) : Bool := mst (at0 l i).1 place && may (at0 l i) && (rep (at0 l i).1 place || !(seen l i (at0 l i).1))
def chkP (place : Int) (l : List Pr) : Int := if (∀ i,i < l.length -> okAt place l i = true) then (if l.length <= 32 then 0 else 2) else 1
def pvb (p : Pr) : List Int :=
 if kd p.1 = 1 then [p.2.1] else if kd p.1 = 2 then [p.2.1 / 256,p.2.1 % 256]
 else if kd p.1 = 4 then [p.2.1 / 16777216,p.2.1 / 65536 % 256,p.2.1 / 256 % 256,p.2.1 % 256]
 else if kd p.1 = 5 then V.put p.2.1 else if kd p.1 = 8 then tx p.2.2.1 ++ tx p.2.2.2 else tx p.2.2.1
def pb (p : Pr) : List Int := V.put p.1 ++ pvb p
def body (l : List Pr) : List Int := l.flatMap pb
def pbs (l : List Pr) : List Int := V.put ((body l).length : Int) ++ body l
theorem id_cases {P : Int -> Prop} (id : Int) (h1 : P 1) (h2 : P 2) (h3 : P 3) (h8 : P 8) (h9 : P 9) (h11 : P 11) (h17 : P 17) (h18 : P 18) (h19 : P 19) (h21 : P 21) (h22 : P 22) (h23 : P 23) (h24 : P 24) (h25 : P 25) (h26 : P 26) (h28 : P 28) (h31 : P 31) (h33 : P 33) (h34 : P 34) (h35 : P 35) (h36 : P 36) (h37 : P 37) (h38 : P 38) (h39 : P 39) (h40 : P 40) (h41 : P 41) (h42 : P 42) (hn : id ≠ 1 -> id ≠ 2 -> id ≠ 3 -> id ≠ 8 -> id ≠ 9 -> id ≠ 11 -> id ≠ 17 -> id ≠ 18 -> id ≠ 19 -> id ≠ 21 -> id ≠ 22 -> id ≠ 23 -> id ≠ 24 -> id ≠ 25 -> id ≠ 26 -> id ≠ 28 -> id ≠ 31 -> id ≠ 33 -> id ≠ 34 -> id ≠ 35 -> id ≠ 36 -> id ≠ 37 -> id ≠ 38 -> id ≠ 39 -> id ≠ 40 -> id ≠ 41 -> id ≠ 42 -> P id) : P id := by
 by_cases e1 : id = 1
 ·rw [e1]; exact h1
 by_cases e2 : id = 2
 ·rw [e2]; exact h2
 by_cases e3 : id = 3
 ·rw [e3]; exact h3
 by_cases e8 : id = 8
 ·rw [e8]; exact h8
 by_cases e9 : id = 9
 ·rw [e9]; exact h9
 by_cases e11 : id = 11
 ·rw [e11]; exact h11
 by_cases e17 : id = 17
 ·rw [e17]; exact h17
 by_cases e18 : id = 18
 ·rw [e18]; exact h18
 by_cases e19 : id = 19
 ·rw [e19]; exact h19
 by_cases e21 : id = 21
 ·rw [e21]; exact h21
 by_cases e22 : id = 22
 ·rw [e22]; exact h22
 by_cases e23 : id = 23
 ·rw [e23]; exact h23
 by_cases e24 : id = 24
 ·rw [e24]; exact h24
 by_cases e25 : id = 25
 ·rw [e25]; exact h25
 by_cases e26 : id = 26
 ·rw [e26]; exact h26
 by_cases e28 : id = 28
 ·rw [e28]; exact h28
 by_cases e31 : id = 31
 ·rw [e31]; exact h31
 by_cases e33 : id = 33
 ·rw [e33]; exact h33
 by_cases e34 : id = 34
 ·rw [e34]; exact h34
 by_cases e35 : id = 35
 ·rw [e35]; exact h35
 by_cases e36 : id = 36
 ·rw [e36]; exact h36
 by_cases e37 : id = 37
 ·rw [e37]; exact h37
 by_cases e38 : id = 38
 ·rw [e38]; exact h38
 by_cases e39 : id = 39
 ·rw [e39]; exact h39
 by_cases e40 : id = 40
 ·rw [e40]; exact h40
 by_cases e41 : id = 41
 ·rw [e41]; exact h41
 by_cases e42 : id = 42
 ·rw [e42]; exact h42
 exact hn e1 e2 e3 e8 e9 e11 e17 e18 e19 e21 e22 e23 e24 e25 e26 e28 e31 e33 e34 e35 e36 e37 e38 e39 e40 e41 e42
theorem kd_none (id : Int) (n1 : id ≠ 1) (n2 : id ≠ 2) (n3 : id ≠ 3) (n8 : id ≠ 8) (n9 : id ≠ 9) (n11 : id ≠ 11) (n17 : id ≠ 17) (n18 : id ≠ 18) (n19 : id ≠ 19) (n21 : id ≠ 21) (n22 : id ≠ 22) (n23 : id ≠ 23) (n24 : id ≠ 24) (n25 : id ≠ 25) (n26 : id ≠ 26) (n28 : id ≠ 28) (n31 : id ≠ 31) (n33 : id ≠ 33) (n34 : id ≠ 34) (n35 : id ≠ 35) (n36 : id ≠ 36) (n37 : id ≠ 37) (n38 : id ≠ 38) (n39 : id ≠ 39) (n40 : id ≠ 40) (n41 : id ≠ 41) (n42 : id ≠ 42) : kd id = 0 := by
 unfold kd
 simp only [n1,n2,n3,n8,n9,n11,n17,n18,n19,n21,n22,n23,n24,n25,n26,n28,n31,n33,n34,n35,n36,n37,n38,n39,n40,n41,n42,or_false,if_false]
theorem plc_none (id : Int) (n1 : id ≠ 1) (n2 : id ≠ 2) (n3 : id ≠ 3) (n8 : id ≠ 8) (n9 : id ≠ 9) (n11 : id ≠ 11) (n17 : id ≠ 17) (n18 : id ≠ 18) (n19 : id ≠ 19) (n21 : id ≠ 21) (n22 : id ≠ 22) (n23 : id ≠ 23) (n24 : id ≠ 24) (n25 : id ≠ 25) (n26 : id ≠ 26) (n28 : id ≠ 28) (n31 : id ≠ 31) (n33 : id ≠ 33) (n34 : id ≠ 34) (n35 : id ≠ 35) (n36 : id ≠ 36) (n37 : id ≠ 37) (n38 : id ≠ 38) (n39 : id ≠ 39) (n40 : id ≠ 40) (n41 : id ≠ 41) (n42 : id ≠ 42) : plc id = [] := by
 unfold plc
 simp only [n1,n2,n3,n8,n9,n11,n17,n18,n19,n21,n22,n23,n24,n25,n26,n28,n31,n33,n34,n35,n36,n37,n38,n39,n40,n41,n42,or_false,if_false]
theorem lst_none (id : Int) (n11 : id ≠ 11) (n33 : id ≠ 33) (n35 : id ≠ 35) (n39 : id ≠ 39) : lst id = 0 := by
 unfold lst
 simp only [n11,n33,n35,n39,or_false,if_false]
theorem id_range (id place : Int) (h : mst id place = true) : 1 <= id /\ id <= 42 := by
 refine id_cases (P := fun id => mst id place = true -> 1 <= id /\ id <= 42) id (fun _ => by omega) (fun _ => by omega) (fun _ => by omega) (fun _ => by omega) (fun _ => by omega) (fun _ => by omega) (fun _ => by omega) (fun _ => by omega) (fun _ => by omega) (fun _ => by omega) (fun _ => by omega) (fun _ => by omega) (fun _ => by omega) (fun _ => by omega) (fun _ => by omega) (fun _ => by omega) (fun _ => by omega) (fun _ => by omega) (fun _ => by omega) (fun _ => by omega) (fun _ => by omega) (fun _ => by omega) (fun _ => by omega) (fun _ => by omega) (fun _ => by omega) (fun _ => by omega) (fun _ => by omega) ?_ h
 intro n1 n2 n3 n8 n9 n11 n17 n18 n19 n21 n22 n23 n24 n25 n26 n28 n31 n33 n34 n35 n36 n37 n38 n39 n40 n41 n42 h
 unfold mst at h
 rw [plc_none id n1 n2 n3 n8 n9 n11 n17 n18 n19 n21 n22 n23 n24 n25 n26 n28 n31 n33 n34 n35 n36 n37 n38 n39 n40 n41 n42] at h
 simp at h
theorem pvb_le (p : Pr) (h : may p = true) : (pvb p).length <= 131074 := by
 have hv := (V.put_len p.2.1).2
 unfold may txo at h
 rw [Bool.and_eq_true] at h
 have h2 := h.2
 unfold pvb
 by_cases k1 : kd p.1 = 1
 ·rw [if_pos k1]; simp
 rw [if_neg k1]
 by_cases k2 : kd p.1 = 2
 ·rw [if_pos k2]; simp
 rw [if_neg k2]
 by_cases k4 : kd p.1 = 4
 ·rw [if_pos k4]; simp
 rw [if_neg k4]
 by_cases k5 : kd p.1 = 5
 ·rw [if_pos k5]; omega
 rw [if_neg k5]
 by_cases k8 : kd p.1 = 8
 ·rw [if_pos k8]
  rw [if_neg (by omega),if_neg (by omega),if_pos k8,Bool.and_eq_true,decide_eq_true_eq,decide_eq_true_eq] at h2
  have a := chk_0 h2.1
  have b := chk_0 h2.2
  rw [sb_length] at a b
  rw [List.length_append,tx_length,tx_length]
  omega
 rw [if_neg k8]
 by_cases k6 : kd p.1 = 6
 ·rw [if_pos k6,decide_eq_true_eq] at h2
  have a := chk_0 h2
  rw [sb_length] at a
  rw [tx_length]; omega
 rw [if_neg k6] at h2
 by_cases k7 : kd p.1 = 7
 ·rw [if_pos k7,decide_eq_true_eq] at h2
  rw [tx_length]; omega
 rw [if_neg k7,if_neg k8,decide_eq_true_eq] at h2
 exfalso
 revert h2 k1 k2 k4 k5 k6 k7 k8
 unfold kd
 repeat' split
 all_goals omega
theorem pb_le (p : Pr) (h : may p = true) : 1 <= (pb p).length /\ (pb p).length <= 131078 := by
 have a := V.put_len p.1
 have b := pvb_le p h
 unfold pb
 rw [List.length_append]; omega
theorem body_snoc (l : List Pr) (p : Pr) : body (l ++ [p]) = body l ++ pb p := by unfold body; simp
theorem take_snoc0 (l : List Pr) (k : Nat) (h : k < l.length) : l.take (k + 1) = l.take k ++ [at0 l k] := by
 unfold at0
 rw [List.take_add_one,List.getD_eq_getElem?_getD,List.getElem?_eq_getElem h]; rfl
theorem body_take (l : List Pr) (k : Nat) (h : k < l.length) : body (l.take (k + 1)) = body (l.take k) ++ pb (at0 l k) := by rw [take_snoc0 l k h,body_snoc]
theorem seen_succ (l : List Pr) (k : Nat) (h : k < l.length) (id : Int) : seen l (k + 1) id = (seen l k id || decide ((at0 l k).1 = id)) := by
 unfold seen
 rw [take_snoc0 l k h,List.any_append]; simp
theorem seen_zero (l : List Pr) (id : Int) : seen l 0 id = false := by unfold seen; simp
theorem chkP_bad (place : Int) (l : List Pr) (k : Nat) (hk : k < l.length) (h : okAt place l k = false) : chkP place l = 1 := by
 unfold chkP
 rw [if_neg]
 intro a
 rw [a k hk] at h
 cases h
theorem chkP_ok (place : Int) (l : List Pr) (h : ∀ i,i < l.length -> okAt place l i = true) (hl : l.length <= 32) : chkP place l = 0 := by
 unfold chkP
 rw [if_pos h,if_pos hl]
theorem chkP_lim (place : Int) (l : List Pr) (h : ∀ i,i < l.length -> okAt place l i = true) (hl : 32 < l.length) : chkP place l = 2 := by
 unfold chkP
 rw [if_pos h,if_neg (by omega)]
def okTo (place : Int) (l : List Pr) (k : Nat) : Prop := ∀ i,i < k -> okAt place l i = true
theorem okTo_zero (place : Int) (l : List Pr) : okTo place l 0 := fun i h => absurd h (Nat.not_lt_zero i)
theorem okTo_succ {place : Int} {l : List Pr} {k : Nat} (h : okTo place l k) (h' : okAt place l k = true) : okTo place l (k + 1) := fun i hi => by
 rcases Nat.lt_or_ge i k with a | a
 ·exact h i a
 ·obtain rfl : i = k := by omega
  exact h'
theorem okAt_may {place : Int} {l : List Pr} {k : Nat} (h : okAt place l k = true) : may (at0 l k) = true /\ mst (at0 l k).1 place = true := by
 unfold okAt at h
 rw [Bool.and_eq_true,Bool.and_eq_true] at h
 exact ⟨h.1.2,h.1.1⟩
theorem body_le (l : List Pr) (place : Int) : ∀ k,k <= l.length -> okTo place l k -> (body (l.take k)).length <= k * 131078 := by
 intro k
 induction k with
 | zero => intro _ _; simp [body]
 | succ k ih =>
  intro hk ho
  have a := ih (by omega) (fun i hi => ho i (by omega))
  have b := (pb_le _ (okAt_may (ho k (by omega))).1).2
  rw [body_take l k (by omega),List.length_append]
  omega
end Go.Proofs.YtemedclhglkfjaaGreatDoor
