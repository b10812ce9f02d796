/- Proved here: a message between nodes and its bytes as plain data: told and read, there and back; no beginning of them is one, nor with one behind. Helper laws. -/
import Derived.Test.YtmmhdhpocjnlbaaGreatDoorZUPl
import Derived.Test.YtmmhdhpocjnlbaaGreatDoorZEPl
import Derived.Test.YtmmhdhpocjnlbaaGreatDoorZTPlain
namespace Go.Proofs.YtmmhdhpocjnlbaaGreatDoor.Jr
open Go.RowKit Nt Et Qu
set_option maxRecDepth 100000

/-- a message between nodes -/
structure Rp where
  kind : Int
  frm : Int
  to : Int
  term : Int
  index : Int
  logt : Int
  com : Int
  ok : Bool
  ents : List En
  mems : List Int
  data : ByteArray
def rp0 : Rp := ⟨0, 0, 0, 0, 0, 0, 0, false, [], [], ⟨#[]⟩⟩
/-- what is left to read; none: behind an error -/
abbrev St := Option (List Int)
def R8 (l : List Int) : Prop := ∀ x ∈ l, 0 ≤ x ∧ x ≤ 255
def RS (s : St) : Prop := ∀ l, s = some l → R8 l
def nx (n : Nat) (s : St) : List Int × St := match s with
  | none => ([], none)
  | some r => if n ≤ r.length then (r.take n, some (r.drop n)) else ([], none)
def nm (l : List Int) : Int := l.foldl (fun n c => n * 256 + c) 0
def nu (k : Nat) (s : St) : Int × St := (nm (nx k s).1, (nx k s).2)
def fg (s : St) : Bool × St := (decide ((nu 1 s).1 = 1), if 1 < (nu 1 s).1 then none else (nu 1 s).2)
def tx (k : Nat) (s : St) : ByteArray × St := (bs (nx (nu k s).1.toNat (nu k s).2).1, (nx (nu k s).1.toNat (nu k s).2).2)
def en1 (ix : Int) (s : St) : En × St := ((ix, (nu 5 (nu 1 s).2).1, (nu 1 s).1, (tx 2 (nu 5 (nu 1 s).2).2).1), (tx 2 (nu 5 (nu 1 s).2).2).2)
def ens (ix : Int) (s : St) : Nat → List En × St
  | 0 => ([], s)
  | k + 1 => ((ens ix s k).1 ++ [(en1 (ix + 1 + (k : Int)) (ens ix s k).2).1], (en1 (ix + 1 + (k : Int)) (ens ix s k).2).2)
def mms (s : St) : Nat → List Int × St
  | 0 => ([], s)
  | k + 1 => ((mms s k).1 ++ [(nu 1 (mms s k).2).1], (nu 1 (mms s k).2).2)
def wn : Nat → Int → List Int
  | 0, _ => []
  | k + 1, n => (n / 256 ^ k) % 256 :: wn k n
def wf (b : Bool) : Int := match b with | true => 1 | false => 0
def wt (k : Nat) (s : ByteArray) : List Int := wn k (s.size : Nat) ++ sb s
def we (e : En) : List Int := wn 1 e.2.2.1 ++ (wn 5 e.2.1 ++ wt 2 e.2.2.2)
/-- the parts of a message in their order, as told by one reader -/
def MsgIs (s : St) (m : Rp) (z : St) : Prop := ∃ s1 s2 s3 s4 s5 s6 s7 s8 s9 sa sb' sc, ∃ n k : Int,
  nu 1 s = (m.kind, s1) ∧ nu 1 s1 = (m.frm, s2) ∧ nu 1 s2 = (m.to, s3) ∧ fg s3 = (m.ok, s4) ∧ nu 5 s4 = (m.term, s5) ∧ nu 5 s5 = (m.index, s6) ∧ nu 5 s6 = (m.logt, s7) ∧ nu 5 s7 = (m.com, s8) ∧
  nu 1 s8 = (n, s9) ∧ ens m.index s9 n.toNat = (m.ents, sa) ∧ nu 1 sa = (k, sb') ∧ mms sb' k.toNat = (m.mems, sc) ∧ tx 4 sc = (m.data, z)
def wb (m : Rp) : List Int := wn 1 m.kind ++ (wn 1 m.frm ++ (wn 1 m.to ++ (wf m.ok :: (wn 5 m.term ++ (wn 5 m.index ++ (wn 5 m.logt ++ (wn 5 m.com ++ (wn 1 (m.ents.length : Nat) ++ (m.ents.flatMap we ++ (wn 1 (m.mems.length : Nat) ++ (m.mems.flatMap (wn 1) ++ wt 4 m.data)))))))))))
/-- numbers that have room in so many bytes -/
def Rm (k : Nat) (n : Int) : Prop := 0 ≤ n ∧ n < 256 ^ k
def EFit (ix : Int) (l : List En) : Prop := ∀ j, j < l.length → (en0 l j).1 = ix + 1 + (j : Int) ∧ Rm 5 (en0 l j).2.1 ∧ Rm 1 (en0 l j).2.2.1 ∧ Rm 2 ((en0 l j).2.2.2.size : Nat)
def Fit (m : Rp) : Prop := (Rm 1 m.kind ∧ Rm 1 m.frm ∧ Rm 1 m.to ∧ Rm 5 m.term ∧ Rm 5 m.index ∧ Rm 5 m.logt ∧ Rm 5 m.com) ∧ Rm 1 (m.ents.length : Nat) ∧ EFit m.index m.ents ∧ Rm 1 (m.mems.length : Nat) ∧ (∀ x ∈ m.mems, Rm 1 x) ∧ Rm 4 (m.data.size : Nat)

theorem R8.left {a b : List Int} (h : R8 (a ++ b)) : R8 a := fun x hx => h x (List.mem_append_left _ hx)
theorem R8.right {a b : List Int} (h : R8 (a ++ b)) : R8 b := fun x hx => h x (List.mem_append_right _ hx)
theorem R8.get {l : List Int} (h : R8 l) (j : Nat) : 0 ≤ l.getD j 0 ∧ l.getD j 0 ≤ 255 := by
  rw [List.getD_eq_getElem?_getD]
  by_cases hj : j < l.length
  · rw [List.getElem?_eq_getElem hj]; exact h _ (List.getElem_mem hj)
  · rw [List.getElem?_eq_none (by omega)]; exact ⟨by decide, by decide⟩
theorem R8.of {l : List Int} (h : ∀ j, 0 ≤ l.getD j 0 ∧ l.getD j 0 ≤ 255) : R8 l := fun x hx => by
  obtain ⟨j, hj, rfl⟩ := List.mem_iff_getElem.1 hx
  have := h j
  rw [List.getD_eq_getElem?_getD, List.getElem?_eq_getElem hj] at this
  exact this
theorem R8.sb (s : ByteArray) : R8 (sb s) := R8.of (sb_range s)
theorem nx_none (n : Nat) : nx n none = ([], none) := rfl
theorem nx_app (n : Nat) (l r : List Int) (h : l.length = n) : nx n (some (l ++ r)) = (l, some r) := by
  subst h
  unfold nx
  simp
theorem nx_inv {n : Nat} {s : St} {x r : List Int} (h : nx n s = (x, some r)) : s = some (x ++ r) ∧ x.length = n := by
  unfold nx at h
  cases s with
  | none => simp at h
  | some b =>
    dsimp only at h
    split at h
    · rename_i hn
      simp only [Prod.mk.injEq, Option.some.injEq] at h
      obtain ⟨rfl, rfl⟩ := h
      exact ⟨by rw [List.take_append_drop], by rw [List.length_take]; omega⟩
    · simp at h
theorem wn_len (k : Nat) (n : Int) : (wn k n).length = k := by
  induction k with
  | zero => rfl
  | succ k ih => show (wn k n).length + 1 = _; rw [ih]
theorem wn_r8 (k : Nat) (n : Int) : R8 (wn k n) := by
  induction k with
  | zero => intro x hx; cases hx
  | succ k ih =>
    intro x hx
    rcases List.mem_cons.1 hx with rfl | h
    · have := Int.emod_nonneg (n / 256 ^ k) (show (256 : Int) ≠ 0 by decide)
      have := Int.emod_lt_of_pos (n / 256 ^ k) (show (0 : Int) < 256 by decide)
      omega
    · exact ih x h
theorem nm_wn {k : Nat} {n : Int} (hk : k = 1 ∨ k = 2 ∨ k = 4 ∨ k = 5) (h : Rm k n) : nm (wn k n) = n := by
  obtain ⟨h0, h1⟩ := h
  rcases hk with rfl | rfl | rfl | rfl <;> simp only [wn, nm, List.foldl] <;> simp only [Int.reducePow] at * <;> omega
theorem wn_nm {k : Nat} {l : List Int} (hk : k = 1 ∨ k = 2 ∨ k = 4 ∨ k = 5) (hl : l.length = k) (h : R8 l) : wn k (nm l) = l ∧ Rm k (nm l) := by
  rcases hk with rfl | rfl | rfl | rfl
  · match l, hl with
    | [a], _ =>
      have ha := h a (by simp)
      refine ⟨?_, ?_⟩
      · simp only [wn, nm, List.foldl, Int.reducePow, List.cons.injEq, and_true]; omega
      · simp only [Rm, nm, List.foldl, Int.reducePow]; omega
  · match l, hl with
    | [a, b], _ =>
      have ha := h a (by simp)
      have hb := h b (by simp)
      refine ⟨?_, ?_⟩
      · simp only [wn, nm, List.foldl, Int.reducePow, List.cons.injEq, and_true]; omega
      · simp only [Rm, nm, List.foldl, Int.reducePow]; omega
  · match l, hl with
    | [a, b, c, d], _ =>
      have ha := h a (by simp)
      have hb := h b (by simp)
      have hc := h c (by simp)
      have hd := h d (by simp)
      refine ⟨?_, ?_⟩
      · simp only [wn, nm, List.foldl, Int.reducePow, List.cons.injEq, and_true]; omega
      · simp only [Rm, nm, List.foldl, Int.reducePow]; omega
  · match l, hl with
    | [a, b, c, d, e], _ =>
      have ha := h a (by simp)
      have hb := h b (by simp)
      have hc := h c (by simp)
      have hd := h d (by simp)
      have he := h e (by simp)
      refine ⟨?_, ?_⟩
      · simp only [wn, nm, List.foldl, Int.reducePow, List.cons.injEq, and_true]; omega
      · simp only [Rm, nm, List.foldl, Int.reducePow]; omega
theorem nu_app {k : Nat} {n : Int} (hk : k = 1 ∨ k = 2 ∨ k = 4 ∨ k = 5) (h : Rm k n) (r : List Int) : nu k (some (wn k n ++ r)) = (n, some r) := by
  unfold nu
  rw [nx_app k _ r (wn_len k n), nm_wn hk h]
theorem nu_inv {k : Nat} {s : St} {v : Int} {r : List Int} (hk : k = 1 ∨ k = 2 ∨ k = 4 ∨ k = 5) (hr : RS s) (h : nu k s = (v, some r)) : s = some (wn k v ++ r) ∧ Rm k v ∧ RS (some r) := by
  unfold nu at h
  obtain ⟨x, z, hx⟩ : ∃ x z, nx k s = (x, z) := ⟨_, _, rfl⟩
  rw [hx] at h
  simp only [Prod.mk.injEq] at h
  obtain ⟨rfl, rfl⟩ := h
  obtain ⟨hs, hl⟩ := nx_inv hx
  have h8 := hr _ hs
  obtain ⟨h1, h2⟩ := wn_nm hk hl h8.left
  exact ⟨by rw [h1]; exact hs, h2, fun l e => by cases e; exact h8.right⟩
theorem nu_none (k : Nat) : (nu k none).2 = none := rfl
theorem fg_app (b : Bool) (r : List Int) : fg (some (wf b :: r)) = (b, some r) := by
  have h : nu 1 (some (wf b :: r)) = (wf b, some r) := by
    have := nu_app (k := 1) (n := wf b) (.inl rfl) (by cases b <;> exact ⟨by decide, by decide⟩) r
    rw [show wn 1 (wf b) = [wf b] by cases b <;> rfl] at this
    exact this
  unfold fg
  rw [h]
  cases b <;> rfl
theorem fg_inv {s : St} {b : Bool} {r : List Int} (hr : RS s) (h : fg s = (b, some r)) : s = some (wf b :: r) ∧ RS (some r) := by
  unfold fg at h
  obtain ⟨v, z, hv⟩ : ∃ v z, nu 1 s = (v, z) := ⟨_, _, rfl⟩
  rw [hv] at h
  dsimp only at h
  by_cases h1 : 1 < v
  · rw [if_pos h1] at h; simp at h
  · rw [if_neg h1] at h
    simp only [Prod.mk.injEq] at h
    obtain ⟨rfl, rfl⟩ := h
    obtain ⟨h2, h3, h4⟩ := nu_inv (.inl rfl) hr hv
    refine ⟨?_, h4⟩
    have : v = 0 ∨ v = 1 := by have := h3.1; omega
    rcases this with rfl | rfl <;> exact h2
theorem tx_app {k : Nat} {d : ByteArray} (hk : k = 1 ∨ k = 2 ∨ k = 4 ∨ k = 5) (h : Rm k (d.size : Nat)) (r : List Int) : tx k (some (wt k d ++ r)) = (d, some r) := by
  unfold tx wt
  rw [List.append_assoc, nu_app hk h]
  dsimp only
  rw [nx_app _ (sb d) r (by rw [sb_length]; simp), bs_sb]
theorem bs_len (l : List Int) : (bs l).size = l.length := by
  unfold bs
  show Array.size _ = _
  simp
theorem tx_inv {k : Nat} {s : St} {d : ByteArray} {r : List Int} (hk : k = 1 ∨ k = 2 ∨ k = 4 ∨ k = 5) (hr : RS s) (h : tx k s = (d, some r)) : s = some (wt k d ++ r) ∧ Rm k (d.size : Nat) ∧ RS (some r) := by
  unfold tx at h
  obtain ⟨v, z, hv⟩ : ∃ v z, nu k s = (v, z) := ⟨_, _, rfl⟩
  rw [hv] at h
  dsimp only at h
  obtain ⟨x, y, hx⟩ : ∃ x y, nx v.toNat z = (x, y) := ⟨_, _, rfl⟩
  rw [hx] at h
  simp only [Prod.mk.injEq] at h
  obtain ⟨rfl, rfl⟩ := h
  obtain ⟨rfl, hl⟩ := nx_inv hx
  obtain ⟨rfl, h3, h4⟩ := nu_inv hk hr hv
  have h8 := h4 _ rfl
  have h0 := h3.1
  have e : ((bs x).size : Int) = v := by rw [bs_len, hl]; omega
  refine ⟨?_, ?_, fun l e => by cases e; exact h8.right⟩
  · unfold wt
    rw [e, sb_bs x h8.left.get, List.append_assoc]
  · rw [e]; exact h3
theorem en1_app {ix : Int} {e : En} (hi : e.1 = ix) (h1 : Rm 5 e.2.1) (h2 : Rm 1 e.2.2.1) (h3 : Rm 2 (e.2.2.2.size : Nat)) (r : List Int) : en1 ix (some (we e ++ r)) = (e, some r) := by
  obtain ⟨i, t, k, d⟩ := e
  dsimp only at hi h1 h2 h3
  subst hi
  unfold en1 we
  dsimp only
  rw [List.append_assoc, List.append_assoc, nu_app (.inl rfl) h2]
  dsimp only
  rw [nu_app (.inr (.inr (.inr rfl))) h1]
  dsimp only
  rw [tx_app (.inr (.inl rfl)) h3]
theorem en1_inv {ix : Int} {s : St} {e : En} {r : List Int} (hr : RS s) (h : en1 ix s = (e, some r)) : s = some (we e ++ r) ∧ e.1 = ix ∧ Rm 5 e.2.1 ∧ Rm 1 e.2.2.1 ∧ Rm 2 (e.2.2.2.size : Nat) ∧ RS (some r) := by
  unfold en1 at h
  obtain ⟨a, s1, h1⟩ : ∃ v z, nu 1 s = (v, z) := ⟨_, _, rfl⟩
  rw [h1] at h
  dsimp only at h
  obtain ⟨b, s2, h2⟩ : ∃ v z, nu 5 s1 = (v, z) := ⟨_, _, rfl⟩
  rw [h2] at h
  dsimp only at h
  obtain ⟨c, s3, h3⟩ : ∃ v z, tx 2 s2 = (v, z) := ⟨_, _, rfl⟩
  rw [h3] at h
  simp only [Prod.mk.injEq] at h
  obtain ⟨rfl, rfl⟩ := h
  have n2 : s2 ≠ none := fun e => by subst e; cases h3
  obtain ⟨l2, rfl⟩ : ∃ l, s2 = some l := by cases s2 <;> simp_all
  have n1 : s1 ≠ none := fun e => by subst e; cases h2
  obtain ⟨l1, rfl⟩ : ∃ l, s1 = some l := by cases s1 <;> simp_all
  obtain ⟨e1, g1, hr1⟩ := nu_inv (.inl rfl) hr h1
  obtain ⟨e2, g2, hr2⟩ := nu_inv (.inr (.inr (.inr rfl))) hr1 h2
  obtain ⟨e3, g3, hr3⟩ := tx_inv (.inr (.inl rfl)) hr2 h3
  have e2' := Option.some.inj e2
  have e3' := Option.some.inj e3
  exact ⟨by rw [e1, e2', e3']; unfold we; simp only [List.append_assoc], rfl, g2, g1, g3, hr3⟩
theorem en0_snoc1 (l : List En) (e : En) (j : Nat) (h : j < l.length) : en0 (l ++ [e]) j = en0 l j := en0_app1 l [e] j h
theorem en0_snoc2 (l : List En) (e : En) : en0 (l ++ [e]) l.length = e := en0_app2 l [e] 0
theorem ens_app {ix : Int} {l : List En} (h : EFit ix l) (r : List Int) : ∀ k, k ≤ l.length → ens ix (some (l.flatMap we ++ r)) k = (l.take k, some ((l.drop k).flatMap we ++ r)) := by
  intro k
  induction k with
  | zero => intro _; rfl
  | succ k ih =>
    intro hk
    obtain ⟨h0, h1, h2, h3⟩ := h k hk
    have hd : l.drop k = en0 l k :: l.drop (k + 1) := by
      rw [List.drop_eq_getElem_cons hk, en0_get l k hk]
    show ((ens ix _ k).1 ++ [(en1 (ix + 1 + (k : Int)) (ens ix _ k).2).1], (en1 (ix + 1 + (k : Int)) (ens ix _ k).2).2) = _
    rw [ih (by omega)]
    dsimp only
    rw [hd, List.flatMap_cons, List.append_assoc, en1_app h0 h1 h2 h3, take_snocE l k hk]
theorem ens_inv {ix : Int} : ∀ (k : Nat) {s : St} {l : List En} {r : List Int}, RS s → ens ix s k = (l, some r) → s = some (l.flatMap we ++ r) ∧ l.length = k ∧ EFit ix l ∧ RS (some r) := by
  intro k
  induction k with
  | zero =>
    intro s l r hr h
    simp only [ens, Prod.mk.injEq] at h
    obtain ⟨rfl, rfl⟩ := h
    exact ⟨rfl, rfl, fun j hj => absurd hj (Nat.not_lt_zero j), hr⟩
  | succ k ih =>
    intro s l r hr h
    obtain ⟨l1, s1, h1⟩ : ∃ v z, ens ix s k = (v, z) := ⟨_, _, rfl⟩
    obtain ⟨e, s2, h2⟩ : ∃ v z, en1 (ix + 1 + (k : Int)) s1 = (v, z) := ⟨_, _, rfl⟩
    have h : ((ens ix s k).1 ++ [(en1 (ix + 1 + (k : Int)) (ens ix s k).2).1], (en1 (ix + 1 + (k : Int)) (ens ix s k).2).2) = (l, some r) := h
    rw [h1] at h
    dsimp only at h
    rw [h2] at h
    simp only [Prod.mk.injEq] at h
    obtain ⟨rfl, rfl⟩ := h
    have n1 : s1 ≠ none := fun e => by subst e; cases h2
    obtain ⟨r1, rfl⟩ : ∃ l, s1 = some l := by cases s1 <;> simp_all
    obtain ⟨hs, hl, hf, hr1⟩ := ih hr h1
    obtain ⟨e2, g0, g1, g2, g3, hr2⟩ := en1_inv hr1 h2
    cases e2
    refine ⟨by rw [hs, List.flatMap_append]; simp, by rw [List.length_append, hl]; rfl, fun j hj => ?_, hr2⟩
    rw [List.length_append, hl] at hj
    by_cases hj2 : j < k
    · rw [en0_snoc1 l1 e j (by omega)]; exact hf j (by omega)
    · obtain rfl : j = k := by simp only [List.length_cons, List.length_nil] at hj; omega
      rw [show en0 (l1 ++ [e]) j = e by rw [← hl]; exact en0_snoc2 l1 e]
      exact ⟨g0, g1, g2, g3⟩
theorem mms_app {l : List Int} (h : ∀ x ∈ l, Rm 1 x) (r : List Int) : ∀ k, k ≤ l.length → mms (some (l.flatMap (wn 1) ++ r)) k = (l.take k, some ((l.drop k).flatMap (wn 1) ++ r)) := by
  intro k
  induction k with
  | zero => intro _; rfl
  | succ k ih =>
    intro hk
    show ((mms _ k).1 ++ [(nu 1 (mms _ k).2).1], (nu 1 (mms _ k).2).2) = _
    rw [ih (by omega)]
    dsimp only
    rw [List.drop_eq_getElem_cons hk, List.flatMap_cons, List.append_assoc, nu_app (.inl rfl) (h _ (List.getElem_mem hk)), List.take_add_one, List.getElem?_eq_getElem hk]
    rfl
theorem mms_inv : ∀ (k : Nat) {s : St} {l : List Int} {r : List Int}, RS s → mms s k = (l, some r) → s = some (l.flatMap (wn 1) ++ r) ∧ l.length = k ∧ (∀ x ∈ l, Rm 1 x) ∧ RS (some r) := by
  intro k
  induction k with
  | zero =>
    intro s l r hr h
    simp only [mms, Prod.mk.injEq] at h
    obtain ⟨rfl, rfl⟩ := h
    exact ⟨rfl, rfl, (fun x hx => by cases hx), hr⟩
  | succ k ih =>
    intro s l r hr h
    obtain ⟨l1, s1, h1⟩ : ∃ v z, mms s k = (v, z) := ⟨_, _, rfl⟩
    obtain ⟨e, s2, h2⟩ : ∃ v z, nu 1 s1 = (v, z) := ⟨_, _, rfl⟩
    have h : ((mms s k).1 ++ [(nu 1 (mms s k).2).1], (nu 1 (mms s k).2).2) = (l, some r) := h
    rw [h1] at h
    dsimp only at h
    rw [h2] at h
    simp only [Prod.mk.injEq] at h
    obtain ⟨rfl, rfl⟩ := h
    have n1 : s1 ≠ none := fun e => by subst e; cases h2
    obtain ⟨r1, rfl⟩ : ∃ l, s1 = some l := by cases s1 <;> simp_all
    obtain ⟨hs, hl, hf, hr1⟩ := ih hr h1
    obtain ⟨e2, g0, hr2⟩ := nu_inv (.inl rfl) hr1 h2
    cases e2
    refine ⟨by rw [hs, List.flatMap_append]; simp, by rw [List.length_append, hl]; rfl, fun x hx => ?_, hr2⟩
    rcases List.mem_append.1 hx with hx | hx
    · exact hf x hx
    · simp only [List.mem_cons, List.not_mem_nil, or_false] at hx; subst hx; exact g0
/-- whatever is read is told by one: the same -/
theorem MsgIs.one {s : St} {m p : Rp} {z y : St} (h : MsgIs s m z) (g : MsgIs s p y) : m = p ∧ z = y := by
  obtain ⟨s1, s2, s3, s4, s5, s6, s7, s8, s9, sa, sb', sc, n, k, h1, h2, h3, h4, h5, h6, h7, h8, h9, ha, hb, hc, hd⟩ := h
  obtain ⟨t1, t2, t3, t4, t5, t6, t7, t8, t9, ta, tb, tc, n', k', g1, g2, g3, g4, g5, g6, g7, g8, g9, ga, gb, gc, gd⟩ := g
  obtain ⟨a1, a2, a3, a4, a5, a6, a7, a8, a9, aa, ab⟩ := m
  obtain ⟨b1, b2, b3, b4, b5, b6, b7, b8, b9, ba, bb⟩ := p
  dsimp only at *
  have e := h1.symm.trans g1; cases e
  have e := h2.symm.trans g2; cases e
  have e := h3.symm.trans g3; cases e
  have e := h4.symm.trans g4; cases e
  have e := h5.symm.trans g5; cases e
  have e := h6.symm.trans g6; cases e
  have e := h7.symm.trans g7; cases e
  have e := h8.symm.trans g8; cases e
  have e := h9.symm.trans g9; cases e
  have e := ha.symm.trans ga; cases e
  have e := hb.symm.trans gb; cases e
  have e := hc.symm.trans gc; cases e
  have e := hd.symm.trans gd; cases e
  exact ⟨rfl, rfl⟩
theorem msg_app {m : Rp} (h : Fit m) (r : List Int) : MsgIs (some (wb m ++ r)) m (some r) := by
  obtain ⟨⟨f1, f2, f3, f4, f5, f6, f7⟩, f8, f9, fa, fb, fc⟩ := h
  have k5 : (5 : Nat) = 1 ∨ (5 : Nat) = 2 ∨ (5 : Nat) = 4 ∨ (5 : Nat) = 5 := .inr (.inr (.inr rfl))
  unfold wb
  simp only [List.append_assoc, List.cons_append]
  have he : ens m.index (some (m.ents.flatMap we ++ (wn 1 (m.mems.length : Nat) ++ (m.mems.flatMap (wn 1) ++ (wt 4 m.data ++ r))))) ((m.ents.length : Nat) : Int).toNat = (m.ents, some (wn 1 (m.mems.length : Nat) ++ (m.mems.flatMap (wn 1) ++ (wt 4 m.data ++ r)))) := by
    rw [show ((m.ents.length : Nat) : Int).toNat = m.ents.length by omega, ens_app f9 _ _ (Nat.le_refl _), List.take_length, List.drop_length]; rfl
  have hm : mms (some (m.mems.flatMap (wn 1) ++ (wt 4 m.data ++ r))) ((m.mems.length : Nat) : Int).toNat = (m.mems, some (wt 4 m.data ++ r)) := by
    rw [show ((m.mems.length : Nat) : Int).toNat = m.mems.length by omega, mms_app fb _ _ (Nat.le_refl _), List.take_length, List.drop_length]; rfl
  exact ⟨_, _, _, _, _, _, _, _, _, _, _, _, _, _, nu_app (.inl rfl) f1 _, nu_app (.inl rfl) f2 _, nu_app (.inl rfl) f3 _, fg_app _ _, nu_app k5 f4 _, nu_app k5 f5 _, nu_app k5 f6 _, nu_app k5 f7 _, nu_app (.inl rfl) f8 _, he, nu_app (.inl rfl) fa _, hm, tx_app (.inr (.inr (.inl rfl))) fc _⟩
theorem ens_none (ix : Int) (k : Nat) : (ens ix none k).2 = none := by
  induction k with
  | zero => rfl
  | succ k ih => show (en1 (ix + 1 + (k : Int)) (ens ix none k).2).2 = none; rw [ih]; rfl
theorem mms_none (k : Nat) : (mms none k).2 = none := by
  induction k with
  | zero => rfl
  | succ k ih => show (nu 1 (mms none k).2).2 = none; rw [ih]; rfl
theorem nosome {r : List Int} (h : (none : St) = some r) : False := by cases h
theorem msg_inv {s : St} {m : Rp} {r : List Int} (hr : RS s) (h : MsgIs s m (some r)) : s = some (wb m ++ r) ∧ Fit m := by
  obtain ⟨s1, s2, s3, s4, s5, s6, s7, s8, s9, sa, sb', sc, n, k, h1, h2, h3, h4, h5, h6, h7, h8, h9, ha, hb, hc, hd⟩ := h
  have k5 : (5 : Nat) = 1 ∨ (5 : Nat) = 2 ∨ (5 : Nat) = 4 ∨ (5 : Nat) = 5 := .inr (.inr (.inr rfl))
  have go : ∀ {z : St}, z ≠ none → ∃ l, z = some l := fun {z} h => by cases z <;> simp_all
  obtain ⟨lc, rfl⟩ := go (show sc ≠ none from fun e => by subst e; exact nosome (congrArg Prod.snd hd))
  obtain ⟨lb, rfl⟩ := go (show sb' ≠ none from fun e => by subst e; have := congrArg Prod.snd hc; rw [mms_none] at this; cases this)
  obtain ⟨la, rfl⟩ := go (show sa ≠ none from fun e => by subst e; exact nosome (congrArg Prod.snd hb))
  obtain ⟨l9, rfl⟩ := go (show s9 ≠ none from fun e => by subst e; have := congrArg Prod.snd ha; rw [ens_none] at this; cases this)
  obtain ⟨l8, rfl⟩ := go (show s8 ≠ none from fun e => by subst e; exact nosome (congrArg Prod.snd h9))
  obtain ⟨l7, rfl⟩ := go (show s7 ≠ none from fun e => by subst e; exact nosome (congrArg Prod.snd h8))
  obtain ⟨l6, rfl⟩ := go (show s6 ≠ none from fun e => by subst e; exact nosome (congrArg Prod.snd h7))
  obtain ⟨l5, rfl⟩ := go (show s5 ≠ none from fun e => by subst e; exact nosome (congrArg Prod.snd h6))
  obtain ⟨l4, rfl⟩ := go (show s4 ≠ none from fun e => by subst e; exact nosome (congrArg Prod.snd h5))
  obtain ⟨l3, rfl⟩ := go (show s3 ≠ none from fun e => by subst e; exact nosome (congrArg Prod.snd h4))
  obtain ⟨l2, rfl⟩ := go (show s2 ≠ none from fun e => by subst e; exact nosome (congrArg Prod.snd h3))
  obtain ⟨l1, rfl⟩ := go (show s1 ≠ none from fun e => by subst e; exact nosome (congrArg Prod.snd h2))
  obtain ⟨e1, f1, r1⟩ := nu_inv (.inl rfl) hr h1
  obtain ⟨e2, f2, r2⟩ := nu_inv (.inl rfl) r1 h2
  obtain ⟨e3, f3, r3⟩ := nu_inv (.inl rfl) r2 h3
  obtain ⟨e4, r4⟩ := fg_inv r3 h4
  obtain ⟨e5, f4, r5⟩ := nu_inv k5 r4 h5
  obtain ⟨e6, f5, r6⟩ := nu_inv k5 r5 h6
  obtain ⟨e7, f6, r7⟩ := nu_inv k5 r6 h7
  obtain ⟨e8, f7, r8⟩ := nu_inv k5 r7 h8
  obtain ⟨e9, f8, r9⟩ := nu_inv (.inl rfl) r8 h9
  obtain ⟨ea, el, f9, ra⟩ := ens_inv _ r9 ha
  obtain ⟨eb, fa, rb⟩ := nu_inv (.inl rfl) ra hb
  obtain ⟨ec, ml, fb, rc⟩ := mms_inv _ rb hc
  obtain ⟨ed, fc, rd⟩ := tx_inv (.inr (.inr (.inl rfl))) rc hd
  have en : ((m.ents.length : Nat) : Int) = n := by have := f8.1; omega
  have ek : ((m.mems.length : Nat) : Int) = k := by have := fa.1; omega
  refine ⟨?_, ⟨f1, f2, f3, f4, f5, f6, f7⟩, en ▸ f8, f9, ek ▸ fa, fb, fc⟩
  rw [e1, Option.some.inj e2, Option.some.inj e3, Option.some.inj e4, Option.some.inj e5, Option.some.inj e6, Option.some.inj e7, Option.some.inj e8, Option.some.inj e9, Option.some.inj ea, Option.some.inj eb, Option.some.inj ec, Option.some.inj ed]
  unfold wb
  rw [en, ek]
  simp only [List.append_assoc, List.cons_append]
theorem wb_r8 (m : Rp) : R8 (wb m) := by
  have ht : ∀ (k : Nat) (d : ByteArray), R8 (wt k d) := fun k d x hx => by
    rcases List.mem_append.1 hx with hx | hx
    · exact wn_r8 _ _ x hx
    · exact R8.sb d x hx
  have ha : ∀ {a b : List Int}, R8 a → R8 b → R8 (a ++ b) := fun h1 h2 x hx => by
    rcases List.mem_append.1 hx with hx | hx
    · exact h1 x hx
    · exact h2 x hx
  have hc : ∀ (b : Bool) {l : List Int}, R8 l → R8 (wf b :: l) := fun b l hl x hx => by
    rcases List.mem_cons.1 hx with rfl | hx
    · cases b <;> exact ⟨by decide, by decide⟩
    · exact hl x hx
  have hf : ∀ {α : Type} (l : List α) (f : α → List Int), (∀ a, R8 (f a)) → R8 (l.flatMap f) := fun l f h x hx => by
    obtain ⟨a, _, hx⟩ := List.mem_flatMap.1 hx
    exact h a x hx
  have he : ∀ e, R8 (we e) := fun e => ha (wn_r8 _ _) (ha (wn_r8 _ _) (ht _ _))
  exact ha (wn_r8 _ _) (ha (wn_r8 _ _) (ha (wn_r8 _ _) (hc _ (ha (wn_r8 _ _) (ha (wn_r8 _ _) (ha (wn_r8 _ _) (ha (wn_r8 _ _) (ha (wn_r8 _ _) (ha (hf _ _ he) (ha (wn_r8 _ _) (ha (hf _ _ (wn_r8 1)) (ht _ _))))))))))))
/-- a beginning is none -/
theorem msg_less {m p : Rp} (h : Fit m) {k : Nat} (hk : k < (wb m).length) (g : MsgIs (some ((wb m).take k)) p (some [])) : False := by
  have hr : RS (some ((wb m).take k)) := fun l e => by cases e; exact fun x hx => wb_r8 m x (List.mem_of_mem_take hx)
  obtain ⟨e, hf⟩ := msg_inv hr g
  have e1 : (wb m).take k = wb p := by have := Option.some.inj e; rw [List.append_nil] at this; exact this
  have h2 := msg_app hf ((wb m).drop k)
  rw [← e1, List.take_append_drop] at h2
  have h1 := msg_app h []
  rw [List.append_nil] at h1
  have := (h1.one h2).2
  have := congrArg (fun l => (Option.getD l []).length) this
  simp only [Option.getD_some, List.length_nil, List.length_drop] at this
  omega

def InN (n : Int) : Prop := 0 ≤ n ∧ n ≤ 1099511627775
@[reducible] def decInN (n : Int) : Decidable (InN n) := by unfold InN; infer_instance
def inB (n : Int) : Bool := decide (0 ≤ n) && decide (n ≤ 1099511627775)
def nodB (n : Int) : Bool := decide (1 ≤ n) && decide (n ≤ 7)
/-- a kind, nodes, numbers -/
def hdB (m : Rp) : Bool := (decide (1 ≤ m.kind) && decide (m.kind ≤ 7)) && (nodB m.frm && nodB m.to) && (inB m.term && inB m.index && inB m.logt && inB m.com)
/-- beside the head and what a kind has use for -/
def bsd (m : Rp) : Rp :=
  if m.kind = 5 then { m with com := 0, ents := [], index := 0, logt := 0 }
  else if m.kind = 7 then { m with index := 0, logt := 0, mems := [], data := ⟨#[]⟩ }
  else if m.kind = 1 ∨ m.kind = 3 then { m with index := 0, logt := 0 }
  else if m.kind = 6 then { m with index := 0, ok := false }
  else if m.kind = 2 ∨ m.kind = 4 then { m with ok := false }
  else m
def empB (m : Rp) : Bool := (decide (m.index = 0) && decide (m.logt = 0) && decide (m.com = 0)) && (!m.ok && decide (m.ents.length = 0) && decide (m.mems.length = 0)) && decide (m.data.size = 0)
def memB (l : List Int) : Bool := decide (l.length ≠ 0) && decide (Mem l)
def confB (e : En) : Bool := if e.2.2.1 = 2 then memB (sb e.2.2.2) else true
def entB (m : Rp) : Bool := decide (m.ents.length ≤ 16) && (decide (GoOn m.index m.logt m.ents) && m.ents.all confB)
def snpB (m : Rp) : Bool := (decide (1 ≤ m.index) && decide (m.index ≤ 1099511625728)) && decide (m.data.size ≤ 524288) && memB m.mems
def mayB (m : Rp) : Bool := (hdB m && empB (bsd m)) && (if m.kind = 5 then entB m else if m.kind = 7 then snpB m else true)
theorem hd_iff {m : Rp} : hdB m = true ↔ (1 ≤ m.kind ∧ m.kind ≤ 7) ∧ ((1 ≤ m.frm ∧ m.frm ≤ 7) ∧ 1 ≤ m.to ∧ m.to ≤ 7) ∧ ((InN m.term ∧ InN m.index) ∧ InN m.logt) ∧ InN m.com := by
  unfold hdB nodB inB InN
  simp only [Bool.and_eq_true, decide_eq_true_eq]
  omega
theorem emp_iff {m : Rp} : empB m = true ↔ (m.index = 0 ∧ m.logt = 0 ∧ m.com = 0) ∧ (m.ok = false ∧ m.ents = [] ∧ m.mems = []) ∧ m.data.size = 0 := by
  unfold empB
  simp only [Bool.and_eq_true, decide_eq_true_eq, Bool.not_eq_true', List.length_eq_zero_iff]
  constructor
  · rintro ⟨⟨⟨⟨a, b⟩, c⟩, ⟨d, e⟩, f⟩, g⟩; exact ⟨⟨a, b, c⟩, ⟨d, e, f⟩, g⟩
  · rintro ⟨⟨a, b, c⟩, ⟨d, e, f⟩, g⟩; exact ⟨⟨⟨⟨a, b⟩, c⟩, ⟨d, e⟩, f⟩, g⟩
theorem mem_iff {l : List Int} : memB l = true ↔ l ≠ [] ∧ Mem l := by
  unfold memB
  simp only [Bool.and_eq_true, decide_eq_true_eq, ne_eq, List.length_eq_zero_iff]
/-- what may be has room in its bytes -/
theorem may_fit {m : Rp} (h : mayB m = true) : Fit m := by
  unfold mayB at h
  simp only [Bool.and_eq_true] at h
  obtain ⟨⟨h1, h2⟩, h3⟩ := h
  obtain ⟨⟨a1, a2⟩, ⟨⟨a3, a4⟩, a5, a6⟩, ⟨⟨a7, a8⟩, a9⟩, aa⟩ := hd_iff.1 h1
  have r1 : ∀ n : Int, 0 ≤ n → n ≤ 7 → Rm 1 n := fun n h1 h2 => ⟨h1, by simp only [Int.reducePow]; omega⟩
  have r5 : ∀ n : Int, InN n → Rm 5 n := fun n h => ⟨h.1, by have := h.2; simp only [Int.reducePow]; omega⟩
  have r1z : Rm 1 ((([] : List En).length : Nat) : Int) := ⟨by simp, by simp⟩
  have r1y : Rm 1 ((([] : List Int).length : Nat) : Int) := ⟨by simp, by simp⟩
  have ez : ∀ ix, EFit ix [] := fun ix j hj => absurd hj (Nat.not_lt_zero j)
  have mz : ∀ x ∈ ([] : List Int), Rm 1 x := fun x hx => by cases hx
  have r4 : ∀ n : Nat, n ≤ 524288 → Rm 4 ((n : Nat) : Int) := fun n h => ⟨by omega, by simp only [Int.reducePow]; omega⟩
  have head : Rm 1 m.kind ∧ Rm 1 m.frm ∧ Rm 1 m.to ∧ Rm 5 m.term ∧ Rm 5 m.index ∧ Rm 5 m.logt ∧ Rm 5 m.com := ⟨r1 _ (by omega) a2, r1 _ (by omega) a4, r1 _ (by omega) a6, r5 _ a7, r5 _ a8, r5 _ a9, r5 _ aa⟩
  have h2 := emp_iff.1 h2
  refine ⟨head, ?_⟩
  by_cases k5 : m.kind = 5
  · rw [if_pos k5] at h3
    unfold entB at h3
    simp only [Bool.and_eq_true, decide_eq_true_eq] at h3
    obtain ⟨e1, e2, _⟩ := h3
    unfold bsd at h2
    rw [if_pos k5] at h2
    dsimp only at h2
    obtain ⟨_, ⟨_, _, hm⟩, hd⟩ := h2
    rw [hm, hd]
    refine ⟨⟨by omega, by simp only [Int.reducePow]; omega⟩, fun j hj => ?_, r1y, mz, r4 0 (by omega)⟩
    obtain ⟨g1, _, g3⟩ := e2 j hj
    obtain ⟨_, _, g4, g5, g6, g7⟩ := g3
    exact ⟨g1, ⟨g4.1, by have := g4.2; simp only [Int.reducePow]; omega⟩, ⟨g5, by simp only [Int.reducePow]; omega⟩, ⟨by omega, by simp only [Int.reducePow]; omega⟩⟩
  · rw [if_neg k5] at h3
    by_cases k7 : m.kind = 7
    · rw [if_pos k7] at h3
      unfold snpB at h3
      simp only [Bool.and_eq_true, decide_eq_true_eq] at h3
      obtain ⟨⟨_, hd⟩, hm⟩ := h3
      have hM := (mem_iff.1 hm).2
      unfold bsd at h2
      rw [if_neg k5, if_pos k7] at h2
      dsimp only at h2
      obtain ⟨_, ⟨_, he, _⟩, _⟩ := h2
      rw [he]
      have := hM.len7
      exact ⟨r1z, ez _, ⟨by omega, by simp only [Int.reducePow]; omega⟩, fun x hx => r1 x (by have := hM.ge x hx; omega) (hM.ge x hx).2, r4 _ hd⟩
    · have hb : (bsd m).ents = m.ents ∧ (bsd m).mems = m.mems ∧ (bsd m).data = m.data := by
        unfold bsd
        rw [if_neg k5, if_neg k7]
        split
        · exact ⟨rfl, rfl, rfl⟩
        · split
          · exact ⟨rfl, rfl, rfl⟩
          · split <;> exact ⟨rfl, rfl, rfl⟩
      obtain ⟨_, ⟨_, he, hm⟩, hd⟩ := h2
      rw [hb.1] at he
      rw [hb.2.1] at hm
      rw [hb.2.2] at hd
      rw [he, hm, hd]
      exact ⟨r1z, ez _, r1y, mz, r4 0 (by omega)⟩
end Go.Proofs.YtmmhdhpocjnlbaaGreatDoor.Jr
