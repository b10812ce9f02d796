/- Proved here: plain laws on rows that are sorted in parts by a key and, among equals, by a mark that tells where they stood: insertion, merging in place, rotation. Helper laws that name no program. -/
import Derived.Sort.LotA
import Derived.KernelRfl
namespace Go.Proofs.Ytfgelagmjjjlgaa.Nt
open Go Go.Sort
variable {α : Type}

/-- ahead by the key, or the same key and marked ahead -/
def rr (key : α → Int) (tag : α → Nat) (x y : α) : Prop := key x < key y ∨ (key x = key y ∧ tag x < tag y)
theorem rr.trans {key : α → Int} {tag : α → Nat} {x y z : α} (h : rr key tag x y) (k : rr key tag y z) : rr key tag x z := by unfold rr at *; omega
theorem rr.of_lt {key : α → Int} {tag : α → Nat} {x y : α} (h : key x < key y) : rr key tag x y := .inl h
theorem rr.of_not {key : α → Int} {tag : α → Nat} {x y : α} (h : ¬ key y < key x) (t : tag x < tag y) : rr key tag x y := by unfold rr; omega
variable [Inhabited α]
def Srt (key : α → Int) (tag : α → Nat) (a b : Nat) (d : Array α) : Prop := ∀ i j, a ≤ i → i < j → j < b → rr key tag d[i]! d[j]!
def Tg (tag : α → Nat) (a m b : Nat) (d : Array α) : Prop := ∀ i j, a ≤ i → i < m → m ≤ j → j < b → tag d[i]! < tag d[j]!

theorem perm_out {a b : Nat} {d d' : Array α} (h : PermIn a b d d') (i : Nat) (hi : i < a ∨ b ≤ i) : d'[i]! = d[i]! := h.2.1 i hi
/-- what stands in the part stood in it -/
theorem perm_in {a b : Nat} {d d' : Array α} (h : PermIn a b d d') (hb : b ≤ d.size) (i : Nat) (ha : a ≤ i) (hi : i < b) : ∃ j, a ≤ j ∧ j < b ∧ d'[i]! = d[j]! :=
  permIn_all d d' a b (fun x => ∃ j, a ≤ j ∧ j < b ∧ x = d[j]!) hb h (fun j h1 h2 => ⟨j, h1, h2, rfl⟩) i ha hi

theorem get_swp (d : Array α) (i j x : Nat) (hi : i < d.size) (hj : j < d.size) : (swp d i j)[x]! = if x = i then d[j]! else if x = j then d[i]! else d[x]! := by
  by_cases h1 : x = i
  · subst h1
    rw [if_pos rfl]
    by_cases h2 : x = j
    · subst h2
      unfold swp
      simp [hi]
    · unfold swp
      rw [getElem!_pos _ x (by simpa using hi)]
      rw [Array.getElem_setIfInBounds_ne (by simpa using hi) (Ne.symm h2)]
      simp
  · rw [if_neg h1]
    by_cases h2 : x = j
    · subst h2
      rw [if_pos rfl]
      unfold swp
      rw [getElem!_pos _ x (by simpa using hj)]
      simp
    · rw [if_neg h2]
      exact swp_other d i j x h1 h2

/-! insertion -/
/-- the element at j is under way: among those up to i -/
structure Ins (key : α → Int) (tag : α → Nat) (a i j : Nat) (d : Array α) : Prop where
  rest : ∀ p q, a ≤ p → p < q → q ≤ i → p ≠ j → q ≠ j → rr key tag d[p]! d[q]!
  behind : ∀ q, j < q → q ≤ i → rr key tag d[j]! d[q]!
  mark : ∀ p, a ≤ p → p ≤ i → p ≠ j → tag d[p]! < tag d[j]!
theorem Ins.stop {key : α → Int} {tag : α → Nat} {a i j : Nat} {d : Array α} (h : Ins key tag a i j d) (haj : a ≤ j) (hji : j ≤ i) (hs : j = a ∨ ¬ key d[j]! < key d[j - 1]!) : Srt key tag a (i + 1) d := by
  intro p q hp hpq hq
  by_cases h1 : p = j
  · subst h1; exact h.behind q hpq (by omega)
  · by_cases h2 : q = j
    · subst h2
      rcases hs with hs | hs
      · omega
      · have e : rr key tag d[q - 1]! d[q]! := rr.of_not hs (h.mark (q - 1) (by omega) (by omega) (by omega))
        by_cases h3 : p = q - 1
        · subst h3; exact e
        · exact (h.rest p (q - 1) hp (by omega) (by omega) h1 (by omega)).trans e
    · exact h.rest p q hp hpq (by omega) h1 h2
theorem Ins.go {key : α → Int} {tag : α → Nat} {a i j : Nat} {d : Array α} (h : Ins key tag a i (j + 1) d) (haj : a ≤ j) (hji : j + 1 ≤ i) (hi : i < d.size) (hlt : key d[j + 1]! < key d[j]!) : Ins key tag a i j (swp d (j + 1) j) := by
  have g := fun x => get_swp d (j + 1) j x (by omega) (by omega)
  refine ⟨?_, ?_, ?_⟩
  · intro p q hp hpq hq n1 n2
    rw [g p, g q]
    by_cases e1 : p = j + 1
    · subst e1
      rw [if_pos rfl, if_neg (by omega), if_neg n2]
      exact h.rest j q haj (by omega) hq (by omega) (by omega)
    · rw [if_neg e1, if_neg n1]
      by_cases e2 : q = j + 1
      · subst e2
        rw [if_pos rfl]
        exact h.rest p j hp (by omega) (by omega) e1 (by omega)
      · rw [if_neg e2, if_neg n2]
        exact h.rest p q hp hpq hq e1 e2
  · intro q h1 h2
    rw [g j, if_neg (by omega), if_pos rfl, g q]
    by_cases e2 : q = j + 1
    · subst e2
      rw [if_pos rfl]
      exact rr.of_lt hlt
    · rw [if_neg e2, if_neg (by omega)]
      exact h.behind q (by omega) h2
  · intro p h1 h2 n
    rw [g j, if_neg (by omega), if_pos rfl, g p]
    by_cases e2 : p = j + 1
    · subst e2
      rw [if_pos rfl]
      exact h.mark j haj (by omega) (by omega)
    · rw [if_neg e2, if_neg n]
      exact h.mark p h1 h2 e2
/-! blocks -/
/-- the row d of n: between two of the marks B it is sorted, and whatever stands ahead of one was ahead of what stands behind it -/
structure Blk (key : α → Int) (tag : α → Nat) (n : Nat) (B : Nat → Prop) (d0 d : Array α) : Prop where
  perm : PermIn 0 n d0 d
  srt : ∀ i j, i < j → j < n → (∀ c, B c → i < c → c ≤ j → False) → rr key tag d[i]! d[j]!
  tg : ∀ c, B c → ∀ i j, i < c → c ≤ j → j < n → tag d[i]! < tag d[j]!
theorem Blk.weak {key : α → Int} {tag : α → Nat} {n : Nat} {B B' : Nat → Prop} {d0 d : Array α} (h : Blk key tag n B d0 d) (h1 : ∀ c, c < n → B' c → B c) (h2 : ∀ c, B c → 0 < c → c < n → B' c) : Blk key tag n B' d0 d :=
  ⟨h.perm, fun i j hij hj hc => h.srt i j hij hj (fun c hB e1 e2 => hc c (h2 c hB (by omega) (by omega)) e1 e2), fun c hB i j e1 e2 e3 => h.tg c (h1 c (by omega) hB) i j e1 e2 e3⟩
theorem Blk.step {key : α → Int} {tag : α → Nat} {n a b : Nat} {B B' : Nat → Prop} {d0 d d' : Array α} (h : Blk key tag n B d0 d) (hd : n ≤ d0.size) (hb : b ≤ n) (hp : PermIn a b d d') (hs : Srt key tag a b d')
    (h1 : ∀ c, c < n → B' c → B c ∧ (c ≤ a ∨ b ≤ c)) (h2 : ∀ c, B c → 0 < c → c < n → (c ≤ a ∨ b ≤ c) → B' c) (ha : B' a) (hb' : b < n → B' b) : Blk key tag n B' d0 d' := by
  have hsz : n ≤ d.size := by rw [h.perm.1]; exact hd
  refine ⟨permIn_trans _ _ _ _ _ h.perm (permIn_mono _ _ _ _ _ _ (Nat.zero_le _) hb hsz hp), ?_, ?_⟩
  · intro i j hij hj hc
    by_cases e1 : j < a
    · rw [perm_out hp i (.inl (by omega)), perm_out hp j (.inl e1)]
      exact h.srt i j hij hj (fun c hB g1 g2 => hc c (h2 c hB (by omega) (by omega) (.inl (by omega))) g1 g2)
    · by_cases e2 : i < a
      · exact absurd (hc a ha e2 (by omega)) id
      · by_cases e3 : j < b
        · exact hs i j (by omega) hij e3
        · by_cases e4 : i < b
          · exact absurd (hc b (hb' (by omega)) e4 (by omega)) id
          · rw [perm_out hp i (.inr (by omega)), perm_out hp j (.inr (by omega))]
            exact h.srt i j hij hj (fun c hB g1 g2 => hc c (h2 c hB (by omega) (by omega) (.inr (by omega))) g1 g2)
  · intro c hB i j e1 e2 e3
    obtain ⟨hBc, hcc⟩ := h1 c (by omega) hB
    have fi : ∃ i', i' < c ∧ d'[i]! = d[i']! := by
      by_cases g : a ≤ i ∧ i < b
      · obtain ⟨i', k1, k2, k3⟩ := perm_in hp (by omega) i g.1 g.2
        exact ⟨i', by omega, k3⟩
      · exact ⟨i, e1, perm_out hp i (by omega)⟩
    have fj : ∃ j', c ≤ j' ∧ j' < n ∧ d'[j]! = d[j']! := by
      by_cases g : a ≤ j ∧ j < b
      · obtain ⟨j', k1, k2, k3⟩ := perm_in hp (by omega) j g.1 g.2
        exact ⟨j', by omega, by omega, k3⟩
      · exact ⟨j, e2, e3, perm_out hp j (by omega)⟩
    obtain ⟨i', k1, k2⟩ := fi
    obtain ⟨j', l1, l2, l3⟩ := fj
    rw [k2, l3]
    exact h.tg c hBc i' j' k1 l1 l2
theorem Blk.part {key : α → Int} {tag : α → Nat} {n a m : Nat} {B : Nat → Prop} {d0 d : Array α} (h : Blk key tag n B d0 d) (hm : m ≤ n) (hB : ∀ c, B c → a < c → m ≤ c) : Srt key tag a m d :=
  fun i j h1 h2 h3 => h.srt i j h2 (by omega) (fun c hc e1 e2 => by have := hB c hc (by omega); omega)
theorem Blk.marks {key : α → Int} {tag : α → Nat} {n a m b : Nat} {B : Nat → Prop} {d0 d : Array α} (h : Blk key tag n B d0 d) (hb : b ≤ n) (hB : B m) : Tg tag a m b d :=
  fun i j _ h2 h3 h4 => h.tg m hB i j h2 h3 (by omega)
theorem dvd_gap {s a c : Nat} (ha : s ∣ a) (hc : s ∣ c) (h : a < c) : a + s ≤ c := by
  have := Nat.le_of_dvd (by omega) (Nat.dvd_sub hc ha)
  omega

/-! merging: a single one ahead, or behind -/
theorem one_first {key : α → Int} {tag : α → Nat} {a b i : Nat} {d d' : Array α} (h1 : Srt key tag (a + 1) b d) (hi : a + 1 ≤ i) (hib : i ≤ b) (hl : a + 1 < i → rr key tag d[i - 1]! d[a]!) (hr : i < b → rr key tag d[a]! d[i]!)
    (e1 : ∀ x, a ≤ x → x < i - 1 → d'[x]! = d[x + 1]!) (e2 : d'[i - 1]! = d[a]!) (e3 : ∀ x, i ≤ x → d'[x]! = d[x]!) : Srt key tag a b d' := by
  intro x y hx hxy hy
  by_cases c1 : y < i - 1
  · rw [e1 x hx (by omega), e1 y (by omega) c1]
    exact h1 _ _ (by omega) (by omega) (by omega)
  · by_cases c2 : y = i - 1
    · subst c2
      rw [e2, e1 x hx hxy]
      by_cases c3 : x + 1 = i - 1
      · rw [c3]; exact hl (by omega)
      · exact (h1 (x + 1) (i - 1) (by omega) (by omega) (by omega)).trans (hl (by omega))
    · rw [e3 y (by omega)]
      have hay : rr key tag d[a]! d[y]! := by
        by_cases c4 : y = i
        · subst c4; exact hr hy
        · exact (hr (by omega)).trans (h1 i y (by omega) (by omega) hy)
      by_cases c3 : x < i - 1
      · rw [e1 x hx c3]
        exact h1 (x + 1) y (by omega) (by omega) hy
      · by_cases c5 : x = i - 1
        · subst c5; rw [e2]; exact hay
        · rw [e3 x (by omega)]
          exact h1 x y (by omega) hxy hy
theorem one_last {key : α → Int} {tag : α → Nat} {a m i : Nat} {d d' : Array α} (h1 : Srt key tag a m d) (hi : a ≤ i) (him : i ≤ m) (hl : a < i → rr key tag d[i - 1]! d[m]!) (hr : i < m → rr key tag d[m]! d[i]!)
    (e1 : ∀ x, i < x → x ≤ m → d'[x]! = d[x - 1]!) (e2 : d'[i]! = d[m]!) (e3 : ∀ x, x < i → d'[x]! = d[x]!) : Srt key tag a (m + 1) d' := by
  intro x y hx hxy hy
  by_cases c1 : y < i
  · rw [e3 x (by omega), e3 y c1]
    exact h1 _ _ hx hxy (by omega)
  · by_cases c2 : y = i
    · subst c2
      rw [e2, e3 x hxy]
      by_cases c3 : x = y - 1
      · rw [c3]; exact hl (by omega)
      · exact (h1 x (y - 1) hx (by omega) (by omega)).trans (hl (by omega))
    · rw [e1 y (by omega) (by omega)]
      by_cases c3 : x < i
      · rw [e3 x c3]
        by_cases c4 : x = y - 1
        · omega
        · exact h1 x (y - 1) hx (by omega) (by omega)
      · by_cases c5 : x = i
        · subst c5
          rw [e2]
          by_cases c6 : y - 1 = x
          · rw [c6]; exact hr (by omega)
          · exact (hr (by omega)).trans (h1 x (y - 1) hx (by omega) (by omega))
        · rw [e1 x (by omega) (by omega)]
          exact h1 (x - 1) (y - 1) (by omega) (by omega) (by omega)

/-! rotation -/
def rot (d : Array α) (lo m hi x : Nat) : α := if x < lo then d[x]! else if x < lo + (hi - m) then d[x + (m - lo)]! else if x < hi then d[x - (hi - m)]! else d[x]!
theorem rot_left {d e : Array α} {m i j : Nat} (hi : i ≤ m) (hij : j < i) (h1 : ∀ t, t < j → e[m - i + t]! = d[m + t]!) (h2 : ∀ t, t < j → e[m + t]! = d[m - i + t]!) (h3 : ∀ x, x < m - i ∨ (m - i + j ≤ x ∧ x < m) ∨ m + j ≤ x → e[x]! = d[x]!) (x : Nat) :
    rot e (m - (i - j)) m (m + j) x = rot d (m - i) m (m + j) x := by
  unfold rot
  by_cases c1 : x < m - i
  · rw [if_pos (by omega), if_pos c1]; exact h3 x (.inl c1)
  · by_cases c2 : x < m - i + j
    · rw [if_pos (by omega), if_neg c1, if_pos (by omega)]
      have := h1 (x - (m - i)) (by omega)
      rw [show m - i + (x - (m - i)) = x from by omega] at this
      rw [this]
      congr 1
      omega
    · by_cases c3 : x < m - (i - j) + j
      · rw [if_neg (by omega), if_pos (by omega), if_neg c1, if_neg (by omega), if_pos (by omega)]
        have := h2 (x - (m - (i - j))) (by omega)
        rw [show m + (x - (m - (i - j))) = x + (m - (m - (i - j))) from by omega] at this
        rw [this]
        congr 1
        omega
      · by_cases c4 : x < m + j
        · rw [if_neg (by omega), if_neg (by omega), if_pos c4, if_neg c1, if_neg (by omega), if_pos c4]
          exact h3 _ (by omega)
        · rw [if_neg (by omega), if_neg (by omega), if_neg c4, if_neg c1, if_neg (by omega), if_neg c4]
          exact h3 _ (by omega)
theorem rot_right {d e : Array α} {m i j : Nat} (hi : i ≤ m) (hij : i < j) (h1 : ∀ t, t < i → e[m - i + t]! = d[m + j - i + t]!) (h2 : ∀ t, t < i → e[m + j - i + t]! = d[m - i + t]!) (h3 : ∀ x, x < m - i ∨ (m ≤ x ∧ x < m + j - i) ∨ m + j ≤ x → e[x]! = d[x]!) (x : Nat) :
    rot e (m - i) m (m + (j - i)) x = rot d (m - i) m (m + j) x := by
  unfold rot
  by_cases c1 : x < m - i
  · rw [if_pos c1, if_pos c1]; exact h3 x (.inl c1)
  · by_cases c2 : x < m - i + (j - i)
    · rw [if_neg c1, if_pos (by omega), if_neg c1, if_pos (by omega)]
      exact h3 _ (by omega)
    · by_cases c3 : x < m + (j - i)
      · rw [if_neg c1, if_neg (by omega), if_pos c3, if_neg c1]
        by_cases c4 : x < m - i + (m + j - m)
        · rw [if_pos c4]
          have := h1 (x - (j - i) - (m - i)) (by omega)
          rw [show m - i + (x - (j - i) - (m - i)) = x - (m + (j - i) - m) from by omega] at this
          rw [this]
          congr 1
          omega
        · omega
      · by_cases c5 : x < m + j
        · rw [if_neg c1, if_neg (by omega), if_neg c3, if_neg c1, if_neg (by omega), if_pos c5]
          have := h2 (x - (m + j - i)) (by omega)
          rw [show m + j - i + (x - (m + j - i)) = x from by omega] at this
          rw [this]
          congr 1
          omega
        · rw [if_neg c1, if_neg (by omega), if_neg c3, if_neg c1, if_neg (by omega), if_neg c5]
          exact h3 _ (by omega)
theorem rot_even {d e : Array α} {m i : Nat} (hi : i ≤ m) (h1 : ∀ t, t < i → e[m - i + t]! = d[m + t]!) (h2 : ∀ t, t < i → e[m + t]! = d[m - i + t]!) (h3 : ∀ x, x < m - i ∨ m + i ≤ x → e[x]! = d[x]!) (x : Nat) :
    e[x]! = rot d (m - i) m (m + i) x := by
  unfold rot
  by_cases c1 : x < m - i
  · rw [if_pos c1]; exact h3 x (.inl c1)
  · by_cases c2 : x < m
    · rw [if_neg c1, if_pos (by omega)]
      have := h1 (x - (m - i)) (by omega)
      rw [show m - i + (x - (m - i)) = x from by omega] at this
      rw [this]
      congr 1
      omega
    · by_cases c3 : x < m + i
      · rw [if_neg c1, if_neg (by omega), if_pos c3]
        have := h2 (x - m) (by omega)
        rw [show m + (x - m) = x from by omega] at this
        rw [this]
        congr 1
        omega
      · rw [if_neg c1, if_neg (by omega), if_neg c3]
        exact h3 x (.inr (by omega))

/-! merging in place: the part that is turned, and the two that are left -/
theorem sym_rest {key : α → Int} {tag : α → Nat} {a m b s e mid : Nat} {d d1 : Array α} (hs : Srt key tag a m d) (ht : Srt key tag m b d) (hg : Tg tag a m b d) (h1 : a ≤ s) (h2 : s ≤ m) (h3 : m ≤ e) (h4 : e ≤ b) (h5 : mid = s + (e - m)) (hd : ∀ x, d1[x]! = rot d s m e x) :
    Srt key tag a s d1 ∧ Srt key tag s mid d1 ∧ Srt key tag mid e d1 ∧ Srt key tag e b d1 ∧ Tg tag a s mid d1 ∧ Tg tag mid e b d1 := by
  have r1 : ∀ x, x < s → d1[x]! = d[x]! := fun x hx => by rw [hd, rot, if_pos hx]
  have r2 : ∀ x, s ≤ x → x < mid → d1[x]! = d[x + (m - s)]! := fun x hx hy => by rw [hd, rot, if_neg (by omega), if_pos (by omega)]
  have r3 : ∀ x, mid ≤ x → x < e → d1[x]! = d[x - (e - m)]! := fun x hx hy => by rw [hd, rot, if_neg (by omega), if_neg (by omega), if_pos hy]
  have r4 : ∀ x, e ≤ x → d1[x]! = d[x]! := fun x hx => by rw [hd, rot, if_neg (by omega), if_neg (by omega), if_neg (by omega)]
  refine ⟨?_, ?_, ?_, ?_, ?_, ?_⟩
  · intro i j g1 g2 g3
    rw [r1 i (by omega), r1 j g3]; exact hs i j g1 g2 (by omega)
  · intro i j g1 g2 g3
    rw [r2 i g1 (by omega), r2 j (by omega) g3]; exact ht _ _ (by omega) (by omega) (by omega)
  · intro i j g1 g2 g3
    rw [r3 i g1 (by omega), r3 j (by omega) g3]; exact hs _ _ (by omega) (by omega) (by omega)
  · intro i j g1 g2 g3
    rw [r4 i g1, r4 j (by omega)]; exact ht _ _ (by omega) g2 g3
  · intro i j g1 g2 g3 g4
    rw [r1 i g2, r2 j g3 g4]; exact hg _ _ g1 (by omega) (by omega) (by omega)
  · intro i j g1 g2 g3 g4
    rw [r3 i g1 g2, r4 j g3]; exact hg _ _ (by omega) (by omega) (by omega) g4
/-- what stands in the first half is ahead of what stands in the second -/
theorem sym_cross {key : α → Int} {tag : α → Nat} {a m b s e mid : Nat} {d d1 : Array α} (hs : Srt key tag a m d) (ht : Srt key tag m b d) (h1 : a ≤ s) (h2 : s ≤ m) (h3 : m ≤ e) (h4 : e ≤ b) (h5 : mid = s + (e - m)) (hd : ∀ x, d1[x]! = rot d s m e x)
    (hl : a < s → e < b → rr key tag d[s - 1]! d[e]!) (hr : s < m → m < e → rr key tag d[e - 1]! d[s]!) (i j : Nat) (hi : a ≤ i) (hi2 : i < mid) (hj : mid ≤ j) (hj2 : j < b) : rr key tag d1[i]! d1[j]! := by
  have r1 : ∀ x, x < s → d1[x]! = d[x]! := fun x hx => by rw [hd, rot, if_pos hx]
  have r2 : ∀ x, s ≤ x → x < mid → d1[x]! = d[x + (m - s)]! := fun x hx hy => by rw [hd, rot, if_neg (by omega), if_pos (by omega)]
  have r3 : ∀ x, mid ≤ x → x < e → d1[x]! = d[x - (e - m)]! := fun x hx hy => by rw [hd, rot, if_neg (by omega), if_neg (by omega), if_pos hy]
  have r4 : ∀ x, e ≤ x → d1[x]! = d[x]! := fun x hx => by rw [hd, rot, if_neg (by omega), if_neg (by omega), if_neg (by omega)]
  have le1 : ∀ {p q r : Nat}, a ≤ p → p ≤ q → q < m → rr key tag d[q]! d[r]! → rr key tag d[p]! d[r]! := fun {p q r} g1 g2 g3 g4 => by
    by_cases e : p = q
    · subst e; exact g4
    · exact (hs p q g1 (by omega) g3).trans g4
  have le2 : ∀ {p q r : Nat}, m ≤ p → p ≤ q → q < b → rr key tag d[q]! d[r]! → rr key tag d[p]! d[r]! := fun {p q r} g1 g2 g3 g4 => by
    by_cases e : p = q
    · subst e; exact g4
    · exact (ht p q g1 (by omega) g3).trans g4
  by_cases c1 : i < s
  · rw [r1 i c1]
    by_cases c2 : j < e
    · rw [r3 j hj c2]; exact hs _ _ hi (by omega) (by omega)
    · rw [r4 j (by omega)]
      have : rr key tag d[s - 1]! d[j]! := by
        have := hl (by omega) (by omega)
        by_cases e1 : j = e
        · subst e1; exact this
        · exact this.trans (ht e j h3 (by omega) hj2)
      exact le1 hi (by omega) (by omega) this
  · rw [r2 i (by omega) hi2]
    by_cases c2 : j < e
    · rw [r3 j hj c2]
      have : rr key tag d[e - 1]! d[j - (e - m)]! := by
        have := hr (by omega) (by omega)
        by_cases e1 : j - (e - m) = s
        · rw [e1]; exact this
        · exact this.trans (hs s (j - (e - m)) h1 (by omega) (by omega))
      exact le2 (by omega) (by omega) (by omega) this
    · rw [r4 j (by omega)]; exact ht _ _ (by omega) (by omega) hj2
/-- both halves sorted, then the whole -/
theorem sym_whole {key : α → Int} {tag : α → Nat} {a b mid : Nat} {d1 d2 d3 : Array α} (hm : a ≤ mid) (hmb : mid ≤ b) (hb : b ≤ d1.size) (hc : ∀ i j, a ≤ i → i < mid → mid ≤ j → j < b → rr key tag d1[i]! d1[j]!)
    (p2 : PermIn a mid d1 d2) (s2 : Srt key tag a mid d2) (p3 : PermIn mid b d2 d3) (s3 : Srt key tag mid b d3) : Srt key tag a b d3 ∧ PermIn a b d1 d3 := by
  refine ⟨?_, permIn_trans _ _ _ _ _ (permIn_mono _ _ _ _ _ _ (Nat.le_refl _) hmb hb p2) (permIn_mono _ _ _ _ _ _ hm (Nat.le_refl _) (by rw [p2.1]; exact hb) p3)⟩
  intro i j hi hij hj
  by_cases c1 : j < mid
  · rw [perm_out p3 i (.inl (by omega)), perm_out p3 j (.inl c1)]; exact s2 i j hi hij c1
  · by_cases c2 : mid ≤ i
    · exact s3 i j c2 hij hj
    · rw [perm_out p3 i (.inl (by omega))]
      obtain ⟨i', g1, g2, g3⟩ := perm_in p2 (by omega) i hi (by omega)
      obtain ⟨j', l1, l2, l3⟩ := perm_in p3 (by rw [p2.1]; exact hb) j (by omega) hj
      rw [g3, l3, perm_out p2 j' (.inr l1)]
      exact hc i' j' g1 g2 l1 l2
end Go.Proofs.Ytfgelagmjjjlgaa.Nt
