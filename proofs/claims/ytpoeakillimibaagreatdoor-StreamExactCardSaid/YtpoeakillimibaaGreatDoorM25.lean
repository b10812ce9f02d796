/- Proved here: helpers, one text behind the other. -/
import Derived.Test.YtpoeakillimibaaGreatDoorM23
import Derived.Test.YtpoeakillimibaaGreatDoorZPRow
namespace Go.Proofs.YtpoeakillimibaaGreatDoor
open Go.RowKit
set_option maxRecDepth 100000
def RowAt (w : World) (R : Nat) (place : Int) (f : Nat -> Bool) : Prop :=
 w.cell? ⟨R,0,none⟩ = some (.int .i64 place) /\ ∀ j,j <= 42 -> w.cell? ⟨R,1 + j,none⟩ = some (.bool (f j)) /\ w.frozen? ⟨R,1 + j,none⟩ = false
theorem RowAt.lt {w : World} {R : Nat} {place : Int} {f : Nat -> Bool} (h : RowAt w R place f) : R < w.heap.size := cell_lt h.1
theorem RowAt.below {w w' : World} {R : Nat} {place : Int} {f : Nat -> Bool} (h : RowAt w R place f) (hb : Below w.heap.size w w') : RowAt w' R place f := by
 have hl := h.lt
 exact ⟨(hb.cell (p := ⟨R,0,none⟩) hl).trans h.1,fun j hj => ⟨(hb.cell (p := ⟨R,1 + j,none⟩) hl).trans (h.2 j hj).1,(hb.frozen (p := ⟨R,1 + j,none⟩) hl).trans (h.2 j hj).2⟩⟩
theorem RowAt.set {w : World} {R : Nat} {place : Int} {f : Nat -> Bool} (h : RowAt w R place f) (k : Nat) (hk : k <= 42) : RowAt (w.setCell ⟨R,1 + k,none⟩ (.bool true)) R place (fun j => f j || decide (k = j)) := by
 refine ⟨?_,fun j hj => ⟨?_,?_⟩⟩
 ·rw [World.cell?_setCell_other _ _ _ _ (by intro e; simp at e)]; exact h.1
 ·by_cases e : k = j
  ·subst e
   rw [World.cell?_setCell_same _ _ _ (h.2 k hj).1]; simp
  ·rw [World.cell?_setCell_other _ _ _ _ (fun e' => e (by injection e' with _ h2; omega)),(h.2 j hj).1]; simp [e]
 ·rw [World.frozen?_setCell]; exact (h.2 j hj).2
theorem RowAt.congr {w : World} {R : Nat} {place : Int} {f g : Nat -> Bool} (h : RowAt w R place f) (e : ∀ j,j <= 42 -> f j = g j) : RowAt w R place g := ⟨h.1,fun j hj => by rw [<- e j hj]; exact h.2 j hj⟩
theorem rowAt_new (w : World) (place : Int) : RowAt (w.alloc (.cells (rowA place) 235)) w.heap.size place (fun _ => false) := by
 refine ⟨by simp [rowA],fun j hj => ⟨?_,by simp⟩⟩
 rw [World.cell?_alloc_at _ _ _ _ rfl]
 unfold rowA
 rw [Array.getElem?_append_right (by simp)]
 rw [Array.getElem?_replicate,if_pos (show 1 + j - #[Value.int IntKind.i64 place].size < 43 from by simp; omega)]
theorem owns_set {w : World} {B : Nat} {e : TypeId} {s : Nat} {v : Value} {n : Nat} {xs : List Value} (h : w.ownsRow B e s v n xs) (p : Addr) (u : Value) (hp : p.block < B) : (w.setCell p u).ownsRow B e s v n xs := by
 refine ⟨h.1,?_⟩
 rcases h.2 with h1 | ⟨g,cap,cur,hv,hB,hg,rest⟩
 ·exact .inl h1
 ·exact .inr ⟨g,cap,cur,hv,hB,by rw [Below.heap_setCell w p u g (by omega)]; exact hg,rest⟩
theorem row_grown {w w' : World} {R : Nat} {place : Int} {f : Nat -> Bool} {o : Option Nat} (h : RowAt w R place f) (hg : w.grownBy w' o) (ho : ∀ g,o = some g -> g ≠ R) : RowAt w' R place f := by
 have hb : w'.heap[R]? = w.heap[R]? := hg.block R h.lt (fun e => ho R e.symm rfl)
 exact ⟨(World.cell?_of_block (w := w) (a := ⟨R,0,none⟩) hb).trans h.1,fun j hj => ⟨(World.cell?_of_block (w := w) (a := ⟨R,1 + j,none⟩) hb).trans (h.2 j hj).1,(World.frozen?_of_block (w := w) (a := ⟨R,1 + j,none⟩) hb).trans (h.2 j hj).2⟩⟩
def tk (place id n : Int) (s t : ByteArray) (sn : Bool) : Bool := mst id place && fit (id,n,s,t) && (rep id place || !sn)
theorem take_bad (R : Nat) (place id n : Int) (s t : ByteArray) (f : Nat -> Bool) (w : World) (hR : RowAt w R place f) (h : tk place id n s t (f id.toNat) = false) :
  Calls Tryz.prog 200 #[.pointer (some ⟨R,0,none⟩),.agg #[.int .i64 id,.int .i64 n,.string s,.string t]] w (TakeNo w) := by
 unfold tk at h
 by_cases hm : mst id place = true
 ·by_cases hf : fit (id,n,s,t) = true
  ·obtain ⟨h1,h2⟩ := id_range id place hm
   obtain ⟨k,rfl⟩ : ∃ k : Nat,id = k := ⟨id.toNat,by omega⟩
   rw [hm,hf] at h
   simp only [Bool.and_true,Bool.true_and,Int.toNat_natCast,Bool.or_eq_false_iff,Bool.not_eq_false'] at h
   exact take_no3 R k place n s t w (by omega) hR.1 (by rw [(hR.2 k (by omega)).1,h.2]) hm hf h.1
  ·exact take_no2 R place id n s t w hR.1 hm (by simpa using hf)
 ·exact take_no1 R place id n s t w hR.1 (by simpa using hm)
theorem take_good (R k : Nat) (place n : Int) (s t : ByteArray) (f : Nat -> Bool) (w : World) (hk : k <= 42) (hR : RowAt w R place f) (h : tk place k n s t (f k) = true) :
  Calls Tryz.prog 200 #[.pointer (some ⟨R,0,none⟩),.agg #[.int .i64 (k : Int),.int .i64 n,.string s,.string t]] w fun e w' => e = .returned .nilIface /\ ∃ w1,Below w.heap.size w w1 /\ w' = w1.setCell ⟨R,1 + k,none⟩ (.bool true) := by
 unfold tk at h
 rw [Bool.and_eq_true,Bool.and_eq_true] at h
 obtain ⟨⟨hm,hf⟩,hr⟩ := h
 have hc := (hR.2 k hk).1
 have hz := (hR.2 k hk).2
 cases hs : f k
 ·rw [hs] at hc
  exact take_ok0 R k place n s t w hk hR.1 hc hz hm hf
 ·rw [hs] at hc hr
  exact take_ok1 R k place n s t w hk hR.1 hc hz hm hf (by simpa using hr)
theorem take_use (R k : Nat) (place n : Int) (s t : ByteArray) (f g : Nat -> Bool) (w : World) (hk : k <= 42) (hR : RowAt w R place f) (h : tk place k n s t (f k) = true) (hg : ∀ j,j <= 42 -> (f j || decide (k = j)) = g j) (B : Nat) (hB : B <= R) :
  Calls Tryz.prog 200 #[.pointer (some ⟨R,0,none⟩),.agg #[.int .i64 (k : Int),.int .i64 n,.string s,.string t]] w fun e w' => e = .returned .nilIface /\ Hid (RowAt w' R place g) /\ Below B w w' /\ Hid (∀ (B' : Nat) (v : Value) (m : Nat) (xs : List Value) (e : TypeId) (q : Nat),R < B' -> w.ownsRow B' e q v m xs -> w'.ownsRow B' e q v m xs) /\ Hid (∀ (b i : Nat),b ≠ R -> b < w.heap.size -> w'.cell? ⟨b,i,none⟩ = w.cell? ⟨b,i,none⟩) := by
 refine (take_good R k place n s t f w hk hR h).mono ?_
 rintro e w' ⟨rfl,w1,hb,rfl⟩
 have hl := hR.lt
 refine ⟨rfl,((hR.below hb).set k hk).congr hg,(hb.mono (by omega)).setCell hB _,?_,?_⟩
 ·intro B' v m xs e q hB' ho
  exact owns_set (owns_below ho hb) _ _ hB'
 ·intro b i hbR hbw
  rw [World.cell?_setCell_far _ _ _ _ (by simpa using Ne.symm hbR)]
  exact hb.cell (p := ⟨b,i,none⟩) hbw
def PrAt (w : World) (b off : Nat) (l : List Pr) : Prop := ∀ k,k < l.length -> w.cell? ⟨b,off + k * 4,none⟩ = some (.int .i64 (at0 l k).1) /\ w.cell? ⟨b,off + k * 4 + 1,none⟩ = some (.int .i64 (at0 l k).2.1) /\ w.cell? ⟨b,off + k * 4 + 2,none⟩ = some (.string (at0 l k).2.2.1) /\ w.cell? ⟨b,off + k * 4 + 3,none⟩ = some (.string (at0 l k).2.2.2)
theorem PrAt.below {w w' : World} {b off : Nat} {l : List Pr} (h : PrAt w b off l) (hb : Below w.heap.size w w') : PrAt w' b off l := fun k hk => by
 obtain ⟨h0,h1,h2,h3⟩ := h k hk
 have hl := cell_lt h0
 exact ⟨(hb.cell (p := ⟨b,off + k * 4,none⟩) hl).trans h0,(hb.cell (p := ⟨b,off + k * 4 + 1,none⟩) hl).trans h1,(hb.cell (p := ⟨b,off + k * 4 + 2,none⟩) hl).trans h2,(hb.cell (p := ⟨b,off + k * 4 + 3,none⟩) hl).trans h3⟩
def Small (l : List Pr) : Prop := ∀ k,k < l.length -> (at0 l k).2.2.1.size <= 4611686018427387904 /\ (at0 l k).2.2.2.size <= 4611686018427387904
theorem okAt_tk (place : Int) (l : List Pr) (k : Nat) : okAt place l k = (tk place (at0 l k).1 (at0 l k).2.1 (at0 l k).2.2.1 (at0 l k).2.2.2 (seen l k (at0 l k).1) && txo (at0 l k)) := by
 unfold okAt tk may
 rw [show ((at0 l k).1,(at0 l k).2.1,(at0 l k).2.2.1,(at0 l k).2.2.2) = at0 l k from rfl]
 cases mst (at0 l k).1 place <;> cases fit (at0 l k) <;> cases txo (at0 l k) <;> cases (rep (at0 l k).1 place || !seen l k (at0 l k).1) <;> rfl
theorem tk_toNat {place id n : Int} {s t : ByteArray} {b : Bool} (f : Int -> Bool) (h : tk place id n s t (f id) = b) : tk place id n s t (f (id.toNat : Int)) = b := by
 subst h
 by_cases hm : mst id place = true
 ·have := id_range id place hm
  rw [show (id.toNat : Int) = id from by omega]
 ·have hm' : mst id place = false := by simpa using hm
  unfold tk
  rw [hm']; rfl
theorem tk_mst {place id n : Int} {s t : ByteArray} {sn : Bool} (h : tk place id n s t sn = true) : mst id place = true /\ fit (id,n,s,t) = true := by
 unfold tk at h
 rw [Bool.and_eq_true,Bool.and_eq_true] at h
 exact h.1
def gval (k : Int) (l : List Int) : Bool × Int × ByteArray × ByteArray × Nat :=
 if k = 1 \/ k = 2 \/ k = 4 then (decide (k <= l.length),be k l,es,es,k.toNat)
 else if k = 5 then (decide ((V.vget l).2.2 = 0),(V.vget l).1,es,es,(V.vget l).2.1.toNat)
 else if k = 6 then (decide ((gt l).2.2 = 0),0,(gt l).1,es,(gt l).2.1.toNat)
 else if k = 7 then (decide ((gbn l).2.2 = 0),0,(gbn l).1,es,(gbn l).2.1.toNat)
 else if k = 8 then (decide ((gt l).2.2 = 0) && decide ((gt (l.drop (gt l).2.1.toNat)).2.2 = 0),0,(gt l).1,(gt (l.drop (gt l).2.1.toNat)).1,(gt l).2.1.toNat + (gt (l.drop (gt l).2.1.toNat)).2.1.toNat)
 else (false,0,es,es,0)
def gid (l : List Int) : Int := (V.vget l).1
def ghd (l : List Int) : Nat := (V.vget l).2.1.toNat
def grs (l : List Int) : Bool × Int × ByteArray × ByteArray × Nat := gval (kd (gid l)) (l.drop (ghd l))
def gok (l : List Int) : Bool := decide ((V.vget l).2.2 = 0) && (grs l).1
def gpr (l : List Int) : Pr := (gid l,(grs l).2.1,(grs l).2.2.1,(grs l).2.2.2.1)
def gsz (l : List Int) : Nat := ghd l + (grs l).2.2.2.2
def parse (l : List Int) : Option (List Pr) :=
 if _h : l = [] then some [] else if gok l = true then (parse (l.drop (max 1 (gsz l)))).map (gpr l :: ·) else none
termination_by l.length
decreasing_by
 rw [List.length_drop]
 have := List.length_pos_iff.2 _h
 omega
def Rng (l : List Int) : Prop := ∀ j,0 <= l.getD j 0 /\ l.getD j 0 <= 255
theorem Rng.drop {l : List Int} (h : Rng l) (k : Nat) : Rng (l.drop k) := fun j => by
 rw [List.getD_eq_getElem?_getD,List.getElem?_drop,<- List.getD_eq_getElem?_getD]; exact h _
theorem vget_is (l : List Int) (hr : Rng l) (h : (V.vget l).2.2 = 0) : V.vget l = (gid l,(ghd l : Int),0) /\ 1 <= ghd l /\ ghd l <= l.length /\ 0 <= gid l /\ gid l <= 268435455 /\ V.put (gid l) = l.take (ghd l) := by
 obtain ⟨n,k,e,he⟩ : ∃ n k e,V.vget l = (n,k,e) := ⟨_,_,_,rfl⟩
 rw [he] at h
 simp only at h
 subst h
 obtain ⟨h0,h1,K,rfl,h2,h3,h4⟩ := V.vget_ok l hr n k he
 have e1 : gid l = n := by unfold gid; rw [he]
 have e2 : ghd l = K := by unfold ghd; rw [he]; simp
 rw [e1,e2]
 exact ⟨he,h2,h3,h0,h1,h4⟩
theorem gt_is (l : List Int) (h : (gt l).2.2 = 0) : gt l = ((gt l).1,(((gt l).2.1.toNat : Nat) : Int),0) /\ 2 <= (gt l).2.1.toNat /\ (gt l).2.1.toNat <= l.length /\ utf (sb (gt l).1) = true /\ (gt l).1 = gbs l := by
 rcases gt_cases l with ⟨s,K,hf,hu,rfl,rfl,hg⟩ | ⟨m,hm,hg⟩
 ·rw [hg]
  unfold full at hf
  rw [Bool.and_eq_true,decide_eq_true_eq,decide_eq_true_eq] at hf
  refine ⟨by rw [Int.toNat_natCast],?_,?_,hu,rfl⟩
  ·show 2 <= ((2 + nb l : Nat) : Int).toNat
   omega
  ·show ((2 + nb l : Nat) : Int).toNat <= _
   omega
 ·rw [hg] at h
  exact absurd h hm
theorem gbn_is (l : List Int) (h : (gbn l).2.2 = 0) : gbn l = ((gbn l).1,(((gbn l).2.1.toNat : Nat) : Int),0) /\ 2 <= (gbn l).2.1.toNat /\ (gbn l).2.1.toNat <= l.length /\ (gbn l).1 = gbs l := by
 unfold gbn at *
 by_cases hf : full l = true
 ·rw [if_pos hf] at h |-
  unfold full at hf
  rw [Bool.and_eq_true,decide_eq_true_eq,decide_eq_true_eq] at hf
  refine ⟨by rw [Int.toNat_natCast],?_,?_,rfl⟩
  ·show 2 <= ((2 + nb l : Nat) : Int).toNat
   omega
  ·show ((2 + nb l : Nat) : Int).toNat <= _
   omega
 ·rw [if_neg hf] at h
  simp at h
theorem gval_le (k : Int) (l : List Int) (hr : Rng l) (h : (gval k l).1 = true) : (gval k l).2.2.2.2 <= l.length := by
 unfold gval at h |-
 by_cases k1 : k = 1 \/ k = 2 \/ k = 4
 ·rw [if_pos k1] at h |-
  simp only [decide_eq_true_eq] at h |-
  omega
 rw [if_neg k1] at h |-
 by_cases k5 : k = 5
 ·rw [if_pos k5] at h |-
  simp only [decide_eq_true_eq] at h |-
  exact (vget_is l hr h).2.2.1
 rw [if_neg k5] at h |-
 by_cases k6 : k = 6
 ·rw [if_pos k6] at h |-
  simp only [decide_eq_true_eq] at h |-
  exact (gt_is l h).2.2.1
 rw [if_neg k6] at h |-
 by_cases k7 : k = 7
 ·rw [if_pos k7] at h |-
  simp only [decide_eq_true_eq] at h |-
  exact (gbn_is l h).2.2.1
 rw [if_neg k7] at h |-
 by_cases k8 : k = 8
 ·rw [if_pos k8] at h |-
  simp only [Bool.and_eq_true,decide_eq_true_eq] at h |-
  have a := (gt_is l h.1).2.2.1
  have b := (gt_is _ h.2).2.2.1
  rw [List.length_drop] at b
  omega
 rw [if_neg k8] at h
 simp at h
theorem gok_le (l : List Int) (hr : Rng l) (h : gok l = true) : 1 <= gsz l /\ gsz l <= l.length /\ 0 <= gid l /\ gid l <= 268435455 := by
 unfold gok at h
 rw [Bool.and_eq_true,decide_eq_true_eq] at h
 obtain ⟨_,a,b,c,d,_⟩ := vget_is l hr h.1
 have e := gval_le _ _ (hr.drop (ghd l)) h.2
 rw [List.length_drop] at e
 unfold gsz grs
 omega
theorem parse_nil : parse [] = some [] := by rw [parse,dif_pos rfl]
theorem parse_no (l : List Int) (h : l ≠ []) (hg : gok l = false) : parse l = none := by rw [parse,dif_neg h,if_neg (by rw [hg]; decide)]
theorem parse_yes (l : List Int) (h : l ≠ []) (hr : Rng l) (hg : gok l = true) : parse l = (parse (l.drop (gsz l))).map (gpr l :: ·) := by
 rw [parse,dif_neg h,if_pos hg,Nat.max_eq_right (gok_le l hr hg).1]
theorem getOne_good (v : Value) (l : List Int) (w : World) (h : Byt w v l) (hg : gok l = true) : Calls Tryz.prog 204 #[v] w (GoOk (gpr l) (gsz l) w) := by
 have hr := h.range
 have hle := gok_le l hr hg
 unfold gok at hg
 rw [Bool.and_eq_true,decide_eq_true_eq] at hg
 obtain ⟨hv,a,b,c,d,_⟩ := vget_is l hr hg.1
 have hg2 := hg.2
 have hl := gval_le _ _ (Rng.drop hr (ghd l)) hg2
 rw [List.length_drop] at hl
 unfold gpr gsz
 refine gone_ok v l w h (gid l) (ghd l) hv ⟨a,b⟩ (frm (gid l)) (wid (gid l)) (lst (gid l)) (mx (gid l)) rfl _ _ _ _ (by unfold grs; omega) ?_
 intro vb W hb
 have hfrm : frm (gid l) = (if kd (gid l) = 1 \/ kd (gid l) = 2 \/ kd (gid l) = 4 then 1 else if kd (gid l) = 5 then 2 else if kd (gid l) = 6 then 3 else if kd (gid l) = 7 then 4 else if kd (gid l) = 8 then 5 else 0) := rfl
 have hwid : wid (gid l) = (if kd (gid l) = 1 \/ kd (gid l) = 2 \/ kd (gid l) = 4 then kd (gid l) else 0) := rfl
 have hr' := Rng.drop hr (ghd l)
 unfold grs at hg2 |-
 generalize kd (gid l) = k at hg2 hfrm hwid |-
 generalize l.drop (ghd l) = m at hg2 hb hr' |-
 rw [hfrm,hwid]
 clear hfrm hwid
 unfold gval at hg2 |-
 by_cases k1 : k = 1 \/ k = 2 \/ k = 4
 ·rw [if_pos k1] at hg2 |-
  rw [if_pos k1,if_pos k1]
  simp only [decide_eq_true_eq] at hg2 |-
  have := gval_num vb m W hb k (lst (gid l)) (mx (gid l)) k1 hg2
  rw [show ((k.toNat : Nat) : Int) = k from by omega]
  exact this
 rw [if_neg k1] at hg2 |-
 rw [if_neg k1,if_neg k1]
 by_cases k5 : k = 5
 ·rw [if_pos k5] at hg2 |-
  rw [if_pos k5]
  simp only [decide_eq_true_eq] at hg2 |-
  obtain ⟨hv',_⟩ := vget_is m hr' hg2
  exact gval_var vb m W hb _ _ _ _ _ hv'
 rw [if_neg k5] at hg2 |-
 rw [if_neg k5]
 by_cases k6 : k = 6
 ·rw [if_pos k6] at hg2 |-
  rw [if_pos k6]
  simp only [decide_eq_true_eq] at hg2 |-
  exact gval_text vb m W hb _ _ _ _ _ (gt_is m hg2).1
 rw [if_neg k6] at hg2 |-
 rw [if_neg k6]
 by_cases k7 : k = 7
 ·rw [if_pos k7] at hg2 |-
  rw [if_pos k7]
  simp only [decide_eq_true_eq] at hg2 |-
  exact gval_bin vb m W hb _ _ _ _ _ (gbn_is m hg2).1
 rw [if_neg k7] at hg2 |-
 rw [if_neg k7]
 by_cases k8 : k = 8
 ·rw [if_pos k8] at hg2 |-
  rw [if_pos k8]
  simp only [Bool.and_eq_true,decide_eq_true_eq] at hg2 |-
  obtain ⟨e1,e2,e3,_⟩ := gt_is m hg2.1
  obtain ⟨f1,f2,f3,_⟩ := gt_is _ hg2.2
  rw [List.length_drop] at f3
  exact gval_pair vb m W hb _ _ _ _ _ _ _ e1 f1 ⟨e2,e3⟩ (by omega)
 rw [if_neg k8] at hg2
 simp at hg2
theorem getOne_fail (v : Value) (l : List Int) (w : World) (h : Byt w v l) (hg : gok l = false) : Calls Tryz.prog 204 #[v] w (GvBad w) := by
 have hr := h.range
 by_cases hv0 : (V.vget l).2.2 = 0
 ·obtain ⟨hv,a,b,c,d,_⟩ := vget_is l hr hv0
  have hg2 : (grs l).1 = false := by
   unfold gok at hg
   rw [hv0] at hg
   simpa using hg
  refine gone_bad2 v l w h (gid l) (ghd l) hv ⟨a,b⟩ (frm (gid l)) (wid (gid l)) (lst (gid l)) (mx (gid l)) rfl ?_
  intro vb W hb
  have hfrm : frm (gid l) = (if kd (gid l) = 1 \/ kd (gid l) = 2 \/ kd (gid l) = 4 then 1 else if kd (gid l) = 5 then 2 else if kd (gid l) = 6 then 3 else if kd (gid l) = 7 then 4 else if kd (gid l) = 8 then 5 else 0) := rfl
  have hwid : wid (gid l) = (if kd (gid l) = 1 \/ kd (gid l) = 2 \/ kd (gid l) = 4 then kd (gid l) else 0) := rfl
  unfold grs at hg2
  generalize kd (gid l) = k at hg2 hfrm hwid |-
  generalize l.drop (ghd l) = m at hg2 hb
  rw [hfrm,hwid]
  clear hfrm hwid
  unfold gval at hg2
  by_cases k1 : k = 1 \/ k = 2 \/ k = 4
  ·rw [if_pos k1] at hg2
   rw [if_pos k1,if_pos k1]
   simp only [decide_eq_false_iff_not] at hg2
   exact gval_num_bad vb m W hb k _ _ (by omega)
  rw [if_neg k1] at hg2
  rw [if_neg k1,if_neg k1]
  by_cases k5 : k = 5
  ·rw [if_pos k5] at hg2
   rw [if_pos k5]
   simp only [decide_eq_false_iff_not] at hg2
   exact gval_var_bad vb m W hb _ _ _ _ rfl hg2
  rw [if_neg k5] at hg2
  rw [if_neg k5]
  by_cases k6 : k = 6
  ·rw [if_pos k6] at hg2
   rw [if_pos k6]
   simp only [decide_eq_false_iff_not] at hg2
   exact gval_text_bad vb m W hb _ _ _ _ rfl hg2
  rw [if_neg k6] at hg2
  rw [if_neg k6]
  by_cases k7 : k = 7
  ·rw [if_pos k7] at hg2
   rw [if_pos k7]
   simp only [decide_eq_false_iff_not] at hg2
   exact gval_bin_bad vb m W hb _ _ _ _ rfl hg2
  rw [if_neg k7] at hg2
  rw [if_neg k7]
  by_cases k8 : k = 8
  ·rw [if_pos k8] at hg2
   rw [if_pos k8]
   by_cases h1 : (gt m).2.2 = 0
   ·obtain ⟨e1,e2,e3,_⟩ := gt_is m h1
    have h2 : ¬ (gt (m.drop (gt m).2.1.toNat)).2.2 = 0 := by
     rw [h1] at hg2
     simpa using hg2
    exact gval_pair_bad vb m W hb _ _ _ (fun W' hb' => gpair_bad2 vb m W' hb' _ _ e1 ⟨e2,e3⟩ _ rfl h2)
   ·exact gval_pair_bad vb m W hb _ _ _ (fun W' hb' => gpair_bad1 vb m W' hb' _ rfl h1)
  rw [if_neg k8]
  exact gval_none vb m W hb _ _ _
 ·exact gone_bad1 v l w h _ rfl hv0
theorem gpr_txo (l : List Int) (hr : Rng l) (h : gok l = true) : txo (gpr l) = true /\ (gpr l).2.2.1.size <= 65535 /\ (gpr l).2.2.2.size <= 65535 := by
 unfold gok at h
 rw [Bool.and_eq_true,decide_eq_true_eq] at h
 have hg2 := h.2
 have hr' := hr.drop (ghd l)
 unfold gpr txo
 simp only
 unfold grs at hg2 |-
 generalize kd (gid l) = k at hg2 |-
 generalize l.drop (ghd l) = m at hg2 hr' |-
 have hes : es.size <= 65535 := by decide
 have key : ∀ s : ByteArray,utf (sb s) = true -> s.size <= 65535 -> chk (sb s) = 0 := fun s a b => by
  unfold chk
  rw [if_pos a,if_pos (by rw [sb_length]; exact b)]
 unfold gval at hg2 |-
 by_cases k1 : k = 1 \/ k = 2 \/ k = 4
 ·rw [if_pos k1]
  rw [if_neg (by omega),if_neg (by omega),if_neg (by omega)]
  exact ⟨by simp; omega,hes,hes⟩
 rw [if_neg k1] at hg2 |-
 by_cases k5 : k = 5
 ·rw [if_pos k5]
  rw [if_neg (by omega),if_neg (by omega),if_neg (by omega)]
  exact ⟨by simp; omega,hes,hes⟩
 rw [if_neg k5] at hg2 |-
 by_cases k6 : k = 6
 ·rw [if_pos k6] at hg2 |-
  simp only [decide_eq_true_eq] at hg2 |-
  rw [if_pos k6]
  obtain ⟨_,_,_,hu,hs⟩ := gt_is m hg2
  have hz : (gt m).1.size <= 65535 := by rw [hs]; exact gbs_size m hr'
  exact ⟨key _ hu hz,hz,hes⟩
 rw [if_neg k6] at hg2 |-
 by_cases k7 : k = 7
 ·rw [if_pos k7] at hg2 |-
  simp only [decide_eq_true_eq] at hg2 |-
  rw [if_neg k6,if_pos k7]
  obtain ⟨_,_,_,hs⟩ := gbn_is m hg2
  have hz : (gbn m).1.size <= 65535 := by rw [hs]; exact gbs_size m hr'
  exact ⟨hz,hz,hes⟩
 rw [if_neg k7] at hg2 |-
 by_cases k8 : k = 8
 ·rw [if_pos k8] at hg2 |-
  simp only [Bool.and_eq_true,decide_eq_true_eq] at hg2 |-
  rw [if_neg k6,if_neg k7,if_pos k8]
  obtain ⟨_,_,_,hu,hs⟩ := gt_is m hg2.1
  obtain ⟨_,_,_,hu2,hs2⟩ := gt_is _ hg2.2
  have hz : (gt m).1.size <= 65535 := by rw [hs]; exact gbs_size m hr'
  have hz2 : (gt (m.drop (gt m).2.1.toNat)).1.size <= 65535 := by rw [hs2]; exact gbs_size _ (hr'.drop _)
  exact ⟨⟨key _ hu hz,key _ hu2 hz2⟩,hz,hz2⟩
 rw [if_neg k8] at hg2
 simp at hg2
theorem at0_app (d e : List Pr) (i : Nat) (h : i < d.length) : at0 (d ++ e) i = at0 d i := by
 unfold at0
 rw [List.getD_eq_getElem?_getD,List.getElem?_append_left h,<- List.getD_eq_getElem?_getD]
theorem at0_mid (d e : List Pr) (p : Pr) : at0 (d ++ p :: e) d.length = p := by
 unfold at0
 simp
def sn (d : List Pr) (id : Int) : Bool := d.any fun q => decide (q.1 = id)
theorem seen_app (d e : List Pr) (i : Nat) (h : i <= d.length) (id : Int) : seen (d ++ e) i id = seen d i id := by
 unfold seen
 rw [List.take_append_of_le_length h]
theorem okAt_app (place : Int) (d e : List Pr) (i : Nat) (h : i < d.length) : okAt place (d ++ e) i = okAt place d i := by
 unfold okAt
 rw [at0_app d e i h,seen_app d e i (by omega)]
theorem okAt_mid (place : Int) (d e : List Pr) (p : Pr) : okAt place (d ++ p :: e) d.length = (tk place p.1 p.2.1 p.2.2.1 p.2.2.2 (sn d p.1) && txo p) := by
 rw [okAt_tk,at0_mid,seen_app d _ _ (Nat.le_refl _)]
 unfold seen sn
 rw [List.take_length]
theorem sn_snoc (d : List Pr) (p : Pr) (id : Int) : sn (d ++ [p]) id = (sn d id || decide (p.1 = id)) := by
 unfold sn
 rw [List.any_append]; simp
def rdn (place : Int) (l : List Int) : Int := match parse l with
 | none => 1
 | some q => chkP place q
theorem rdn_none (place : Int) (l : List Int) (h : parse l = none) : rdn place l = 1 := by unfold rdn; rw [h]
theorem rdn_some (place : Int) (l : List Int) (q : List Pr) (h : parse l = some q) : rdn place l = chkP place q := by unfold rdn; rw [h]
theorem rdn_bad (place : Int) (l r : List Int) (d : List Pr) (p : Pr) (h : parse l = (parse r).map ((d ++ [p]) ++ ·)) (hp : okAt place (d ++ [p]) d.length = false) : rdn place l = 1 := by
 cases hr : parse r with
 | none => rw [hr] at h; exact rdn_none place l h
 | some q =>
  rw [hr] at h
  rw [rdn_some place l _ h]
  refine chkP_bad place _ d.length (by simp) ?_
  rw [okAt_app place (d ++ [p]) q d.length (by simp)]
  exact hp
def Prp (w : World) (v : Value) (l : List Pr) : Prop := ∃ ao cap,v = .slice ao l.length cap /\ (l = [] \/ ∃ b off,ao = some ⟨b,off,none⟩ /\ PrAt w b off l)
theorem Prp.below {w w' : World} {v : Value} {l : List Pr} (h : Prp w v l) (hb : Below w.heap.size w w') : Prp w' v l := by
 obtain ⟨ao,cap,h1,h2⟩ := h
 refine ⟨ao,cap,h1,?_⟩
 rcases h2 with h2 | ⟨b,off,e,hc⟩
 ·exact .inl h2
 ·exact .inr ⟨b,off,e,hc.below hb⟩
theorem Prp.form {w : World} {v : Value} {l : List Pr} (h : Prp w v l) : ∃ ao cap,v = .slice ao l.length cap := by
 obtain ⟨ao,cap,h1,_⟩ := h
 exact ⟨ao,cap,h1⟩
end Go.Proofs.YtpoeakillimibaaGreatDoor
