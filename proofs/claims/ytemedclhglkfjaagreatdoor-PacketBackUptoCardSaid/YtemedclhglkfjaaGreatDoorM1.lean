/- Proved here: helpers, one text behind the other. -/
import Derived.WalkKit
import Derived.Deep.Draws
import Derived.Deep.QuietTactic
import Derived.BigQuiet
namespace Go.Proofs.YtemedclhglkfjaaGreatDoor
open Go.RowKit
theorem zh {p : Prop} (h : p) : Hid p := h
theorem uh {p : Prop} (h : Hid p) : p := h
theorem bal (w : World) (o : Obj) : Below w.heap.size w (w.alloc o) := (Below.refl _ _).alloc (Nat.le_refl  _) _
theorem bal1 {w w1 : World} {o : Obj} (h : Below (w.alloc o).heap.size (w.alloc o) w1) : Hid (Below w.heap.size w w1) := (bal w o).trans (h.mono (by simp))
theorem cell_lt {w : World} {a : Addr} {v : Value} (h : w.cell? a = some v) : a.block < w.heap.size := by
 rcases Nat.lt_or_ge a.block w.heap.size with h1 | h1
 ·exact h1
 ·simp [World.cell?,Array.getElem?_eq_none h1] at h
theorem below_drewN {B : Nat} {a w : World} (h : Below B a w) (n : Nat) : Below B a (w.drewN n) := ⟨h.os,h.tape,h.output,h.size,h.block⟩
theorem drewN_drewN (w : World) (m n : Nat) : (w.drewN m).drewN n = w.drewN (m + n) := by simp [World.drewN,Nat.add_assoc]
theorem one_cell (w : World) (z : Value) (t : TypeId) : ∀ j u,[z][j]? = some u -> (w.alloc (.cells #[z] t)).cell? ((⟨w.heap.size,0,none⟩ : Addr).add j) = some u := by
 intro j u hj
 match j,hj with
 | 0,hj => simp at hj; subst hj; simp [Addr.add]
theorem one_one (k : IntKind) (z : Int) : ∀ u ∈ [Value.int k z],u.oneCell' = true := by
 intro u hu; simp at hu; subst hu; rfl
def Byt (w : World) (v : Value) (bs : List Int) : Prop :=
 ∃ ao cap,v = .slice ao bs.length cap /\ (bs.length <= cap /\ cap <= maxLen) /\ (∀ j,0 <= bs.getD j 0 /\ bs.getD j 0 <= 255) /\ (bs = [] \/ ∃ b off,ao = some ⟨b,off,none⟩ /\ ∀ j,j < bs.length -> w.cell? ⟨b,off + j,none⟩ = some (.int .u8 (bs.getD j 0)))
theorem Byt.below {w w' : World} {v : Value} {bs : List Int} (h : Byt w v bs) (hb : Below w.heap.size w w') : Byt w' v bs := by
 obtain ⟨ao,cap,h1,h2,h3,h4⟩ := h
 refine ⟨ao,cap,h1,h2,h3,?_⟩
 rcases h4 with h4 | ⟨b,off,e,hc⟩
 ·exact .inl h4
 ·exact .inr ⟨b,off,e,fun j hj => by rw [hb.cell (p := ⟨b,off + j,none⟩) (cell_lt (hc j hj))]; exact hc j hj⟩
theorem owns_below {w w' : World} {B : Nat} {e : TypeId} {s : Nat} {v : Value} {n : Nat} {xs : List Value} (h : w.ownsRow B e s v n xs) (hb : Below w.heap.size w w') : w'.ownsRow B e s v n xs := by
 refine ⟨h.1,?_⟩
 rcases h.2 with h1 | ⟨g,cap,cur,hv,hB,hg,rest⟩
 ·exact .inl h1
 ·exact .inr ⟨g,cap,cur,hv,hB,by rw [hb.block g (Array.getElem?_eq_some_iff.1 hg).1]; exact hg,rest⟩
theorem owns_mono {w : World} {B B' : Nat} {e : TypeId} {s : Nat} {v : Value} {n : Nat} {xs : List Value} (h : w.ownsRow B e s v n xs) (hB : B' <= B) : w.ownsRow B' e s v n xs := by
 refine ⟨h.1,?_⟩
 rcases h.2 with h1 | ⟨g,cap,cur,hv,hBg,rest⟩
 ·exact .inl h1
 ·exact .inr ⟨g,cap,cur,hv,Nat.le_trans hB hBg,rest⟩
theorem byt_of_owns {w : World} {B : Nat} {e : TypeId} {v : Value} {n : Nat} {xs : List Int} (h : w.ownsRow B e 1 v n (xs.map (Value.int .u8))) (hr : ∀ j,0 <= xs.getD j 0 /\ xs.getD j 0 <= 255) : Byt w v xs := by
 have hl : xs.length = n := by simpa using h.1
 rcases h.2 with ⟨rfl,h1⟩ | ⟨g,cap,cur,rfl,hB,hg,hnc,hcm,hcs,htake⟩
 ·have : xs = [] := List.length_eq_zero_iff.1 (by omega)
  subst this
  exact ⟨none,0,rfl,⟨by simp,by simp⟩,hr,.inl rfl⟩
 ·subst hl
  refine ⟨_,cap,rfl,⟨hnc,hcm⟩,hr,.inr ⟨g,0,rfl,fun j hj => ?_⟩⟩
  rw [Nat.zero_add,h.cellAt j (by omega),List.getElem?_map,List.getElem?_eq_getElem hj,List.getD_eq_getElem?_getD,List.getElem?_eq_getElem hj]
  rfl
theorem Byt.take {w : World} {ao : Option Addr} {n cap : Nat} {bs : List Int} (h : Byt w (.slice ao n cap) bs) (K : Nat) (hK : K <= n) : Byt w (.slice ao K cap) (bs.take K) := by
 obtain ⟨ao',cap',e,⟨h1,h2⟩,hr,hcase⟩ := h
 simp only [Value.slice.injEq] at e
 obtain ⟨rfl,rfl,rfl⟩ := e
 have hl : (bs.take K).length = K := by rw [List.length_take]; omega
 refine ⟨ao,cap,by rw [hl],⟨by rw [hl]; omega,h2⟩,?_,?_⟩
 ·intro j
  have := hr j
  by_cases hj : j < K
  ·rw [List.getD_eq_getElem?_getD,List.getElem?_take,if_pos hj,<- List.getD_eq_getElem?_getD]; exact this
  ·rw [List.getD_eq_getElem?_getD,List.getElem?_take,if_neg hj]; simp
 ·rcases hcase with rfl | ⟨b,off,rfl,hc⟩
  ·exact .inl (by simp)
  ·refine .inr ⟨b,off,rfl,fun j hj => ?_⟩
   rw [hl] at hj
   rw [hc j (by omega),List.getD_eq_getElem?_getD,List.getD_eq_getElem?_getD,List.getElem?_take,if_pos hj]
theorem Byt.range {w : World} {v : Value} {bs : List Int} (h : Byt w v bs) : ∀ j,0 <= bs.getD j 0 /\ bs.getD j 0 <= 255 := by
 obtain ⟨_,_,_,_,hr,_⟩ := h
 exact hr
theorem Byt.form {w : World} {v : Value} {bs : List Int} (h : Byt w v bs) : ∃ ao cap,v = .slice ao bs.length cap /\ bs.length <= cap /\ cap <= maxLen := by
 obtain ⟨ao,cap,e,⟨h1,h2⟩,_⟩ := h
 exact ⟨ao,cap,e,h1,h2⟩
theorem Byt.form1 {w : World} {v : Value} {bs : List Int} (h : Byt w v bs) (hn : 1 <= bs.length) : ∃ b off cap,v = .slice (some ⟨b,off,none⟩) bs.length cap /\ bs.length <= cap /\ cap <= maxLen := by
 obtain ⟨ao,cap,e,⟨h1,h2⟩,_,hcase⟩ := h
 rcases hcase with rfl | ⟨b,off,rfl,_⟩
 ·simp at hn
 ·exact ⟨b,off,cap,e,h1,h2⟩
theorem Byt.drop {w : World} {b off n cap : Nat} {l : List Int} (h : Byt w (.slice (some ⟨b,off,none⟩) n cap) l) (p : Nat) (hp : p <= n) : Byt w (.slice (some ⟨b,off + p,none⟩) (n - p) (cap - p)) (l.drop p) := by
 obtain ⟨ao',cap',e,⟨h1,h2⟩,hr,hcase⟩ := h
 simp only [Value.slice.injEq] at e
 obtain ⟨rfl,rfl,rfl⟩ := e
 have hl : (l.drop p).length = l.length - p := List.length_drop
 refine ⟨_,_,by rw [hl],⟨by rw [hl]; omega,by omega⟩,?_,?_⟩
 ·intro j
  rw [List.getD_eq_getElem?_getD,List.getElem?_drop,<- List.getD_eq_getElem?_getD]
  exact hr _
 ·rcases hcase with rfl | ⟨b',off',e,hc⟩
  ·exact .inl (by simp)
  ·simp only [Option.some.injEq,Addr.mk.injEq] at e
   obtain ⟨rfl,rfl,_⟩ := e
   refine .inr ⟨b,off + p,rfl,fun j hj => ?_⟩
   rw [Nat.add_assoc,hc (p + j) (by omega),List.getD_eq_getElem?_getD,List.getD_eq_getElem?_getD,List.getElem?_drop]
theorem Byt.drop' {w : World} {b off n cap : Nat} {l : List Int} (h : Byt w (.slice (some ⟨b,off,none⟩) n cap) l) (p : Nat) (hp : p <= n) : Byt w (.slice (if cap = p then some ⟨b,off,none⟩ else some ⟨b,off + p,none⟩) (n - p) (cap - p)) (l.drop p) := by
 by_cases hc : cap = p
 ·rw [if_pos hc]
  obtain ⟨ao',cap',e,⟨h1,h2⟩,hr,hcase⟩ := h
  simp only [Value.slice.injEq] at e
  obtain ⟨rfl,rfl,rfl⟩ := e
  have hl : l.drop p = [] := List.drop_of_length_le (by omega)
  rw [hl]
  refine ⟨_,_,by rw [show l.length - p = ([] : List Int).length from by simp; omega],⟨by simp,by omega⟩,by intro j; simp,.inl rfl⟩
 ·rw [if_neg hc]
  exact h.drop p hp
end Go.Proofs.YtemedclhglkfjaaGreatDoor
namespace Go.Proofs.YtemedclhglkfjaaGreatDoor
def cont (x : Int) : Bool := decide (128 <= x) && decide (x < 192)
def pv2 (a b : Int) : Int := a % 32 * 64 + b % 64
def pv3 (a b c : Int) : Int := (a % 16 * 64 + b % 64) * 64 + c % 64
def pv4 (a b c d : Int) : Int := ((a % 8 * 64 + b % 64) * 64 + c % 64) * 64 + d % 64
def ok2 (a b : Int) : Bool := cont b && decide (128 <= pv2 a b)
def ok3 (a b c : Int) : Bool := cont b && cont c && decide (2048 <= pv3 a b c) && !(decide (55296 <= pv3 a b c) && decide (pv3 a b c <= 57343))
def ok4 (a b c d : Int) : Bool := cont b && cont c && cont d && decide (65536 <= pv4 a b c d) && decide (pv4 a b c d <= 1114111)
def pt (l : List Int) : Nat :=
 if l.getD 0 0 < 128 then (if 0 < l.getD 0 0 then 1 else 0)
 else if l.getD 0 0 < 192 then 0
 else if l.getD 0 0 < 224 then (if 2 <= l.length /\ ok2 (l.getD 0 0) (l.getD 1 0) = true then 2 else 0)
 else if l.getD 0 0 < 240 then (if 3 <= l.length /\ ok3 (l.getD 0 0) (l.getD 1 0) (l.getD 2 0) = true then 3 else 0)
 else if l.getD 0 0 < 248 then (if 4 <= l.length /\ ok4 (l.getD 0 0) (l.getD 1 0) (l.getD 2 0) (l.getD 3 0) = true then 4 else 0)
 else 0
theorem pt_nil : pt [] = 0 := by simp [pt]
theorem pt_le (l : List Int) : pt l <= l.length := by
 cases l with
 | nil => simp [pt_nil]
 | cons a r =>
  unfold pt
  have : 1 <= (a :: r).length := by simp
  generalize (a :: r) = l at *
  repeat' split
  all_goals omega
theorem pt_le4 (l : List Int) : pt l <= 4 := by
 unfold pt
 repeat' split
 all_goals omega
def utfF : Nat -> List Int -> Bool
 | 0,l => l.isEmpty
 | f + 1,l => l.isEmpty || (decide (pt l ≠ 0) && utfF f (l.drop (pt l)))
def utf (l : List Int) : Bool := utfF l.length l
theorem utfF_nil : ∀ f,utfF f [] = true
 | 0 => rfl
 | _ + 1 => rfl
theorem not_nil {l : List Int} (h : 0 < l.length) : l.isEmpty = false := by
 rcases l with _ | ⟨a,r⟩
 ·simp at h
 ·rfl
theorem utfF_more (f : Nat) : ∀ (g : Nat) (l : List Int),l.length <= f -> l.length <= g -> utfF f l = utfF g l := by
 induction f with
 | zero =>
  intro g l h _
  obtain rfl : l = [] := List.length_eq_zero_iff.1 (by omega)
  rw [utfF_nil,utfF_nil]
 | succ f ih =>
  intro g l hf hg
  by_cases h0 : l.length = 0
  ·obtain rfl : l = [] := List.length_eq_zero_iff.1 h0
   rw [utfF_nil,utfF_nil]
  ·cases g with
   | zero => omega
   | succ g =>
    simp only [utfF]
    by_cases h1 : pt l = 0
    ·simp [h1]
    ·rw [ih g (l.drop (pt l)) (by rw [List.length_drop]; omega) (by rw [List.length_drop]; omega)]
theorem utf_step (l : List Int) (h : 0 < l.length) : utf l = (decide (pt l ≠ 0) && utf (l.drop (pt l))) := by
 obtain ⟨n,hn⟩ : ∃ n,l.length = n + 1 := ⟨l.length - 1,by omega⟩
 unfold utf
 rw [hn]
 simp only [utfF,not_nil h,Bool.false_or]
 by_cases h1 : pt l = 0
 ·simp [h1]
 ·rw [utfF_more n (l.drop (pt l)).length (l.drop (pt l)) (by rw [List.length_drop]; omega) (Nat.le_refl _)]
theorem utf_drop (l : List Int) (k : Nat) (hk : k < l.length) (h0 : pt (l.drop k) ≠ 0) : utf (l.drop k) = utf (l.drop (k + pt (l.drop k))) := by
 rw [utf_step (l.drop k) (by rw [List.length_drop]; omega),List.drop_drop]
 simp [h0]
theorem utf_not (l : List Int) (k : Nat) (hk : k < l.length) (h0 : pt (l.drop k) = 0) : utf (l.drop k) = false := by
 rw [utf_step (l.drop k) (by rw [List.length_drop]; omega)]
 simp [h0]
def chk (l : List Int) : Int := if utf l = true then (if l.length <= 65535 then 0 else 2) else 1
def sb (s : ByteArray) : List Int := s.data.toList.map fun b => (b.toNat : Int)
def bs (l : List Int) : ByteArray := ⟨(l.map fun n => UInt8.ofNat n.toNat).toArray⟩
theorem sb_length (s : ByteArray) : (sb s).length = s.size := by
 rw [sb,List.length_map,Array.length_toList]; rfl
theorem bs_sb (s : ByteArray) : bs (sb s) = s := by
 unfold bs sb
 rw [List.map_map]
 have : ((fun n : Int => UInt8.ofNat n.toNat) ∘ fun b : UInt8 => (b.toNat : Int)) = id := by
  funext b; simp
 rw [this,List.map_id]
theorem sb_range (s : ByteArray) : ∀ j,0 <= (sb s).getD j 0 /\ (sb s).getD j 0 <= 255 := by
 intro j
 unfold sb
 rw [List.getD_eq_getElem?_getD,List.getElem?_map]
 cases s.data.toList[j]? with
 | none => simp
 | some b => simp; have := b.toNat_lt; omega
theorem sb_bs (l : List Int) (h : ∀ j,0 <= l.getD j 0 /\ l.getD j 0 <= 255) : sb (bs l) = l := by
 unfold sb bs
 rw [List.map_map]
 apply List.ext_getElem (by simp)
 intro i h1 h2
 have := h i
 rw [List.getD_eq_getElem?_getD,List.getElem?_eq_getElem h2] at this
 simp only [Option.getD_some] at this
 simp only [List.getElem_map,Function.comp,UInt8.toNat_ofNat']
 omega
theorem sb_get (s : ByteArray) (k : Nat) (h : k < s.size) : (s[k].toNat : Int) = (sb s).getD k 0 := by
 unfold sb
 rw [List.getD_eq_getElem?_getD,List.getElem?_map,List.getElem?_eq_getElem (by simpa using h)]
 rfl
theorem sb_drop (s : ByteArray) (k : Nat) : sb (s.extract k s.size) = (sb s).drop k := by
 unfold sb
 rw [<- List.map_drop]
 congr 1
 simp only [ByteArray.data_extract,Array.toList_extract,List.extract_eq_take_drop]
 rw [List.take_of_length_le (by rw [List.length_drop,Array.length_toList]; exact Nat.le_refl _)]
theorem sb_take (s : ByteArray) (k : Nat) : sb (s.extract 0 k) = (sb s).take k := by
 unfold sb
 rw [<- List.map_take]
 congr 1
 simp [ByteArray.data_extract]
end Go.Proofs.YtemedclhglkfjaaGreatDoor
