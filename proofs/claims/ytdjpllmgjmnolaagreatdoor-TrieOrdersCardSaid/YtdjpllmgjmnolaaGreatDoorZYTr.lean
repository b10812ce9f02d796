/- Proved here: an index in memory: which nodes there are, by the levels that lead to them, and how that turns when a map is made, an entry is put or taken away, a node is added or taken away. Helper laws. -/
import Derived.Test.YtdjpllmgjmnolaaGreatDoorZYMp
namespace Go.Proofs.YtdjpllmgjmnolaaGreatDoor.Y
open Go.RowKit Go.Maps
set_option maxRecDepth 100000

/-- a node: its block, its maps' blocks, what else its block holds -/
structure Nod where
  blk : Nat
  bm : Option Nat
  sm : Option Nat
  tl : List Value
  ty : TypeId
def Nod.blks (a : Nod) : List Nat := a.blk :: (a.bm.toList ++ a.sm.toList)
def nodeO (a : Nod) : Obj := .cells (Value.map a.bm :: Value.map a.sm :: a.tl).toArray a.ty (0, 0)
abbrev Gr := Path → Option Nod
def upd (G : Gr) (p : Path) (o : Option Nod) : Gr := fun q => if q = p then o else G q
theorem upd_same (G : Gr) (p : Path) (o : Option Nod) : upd G p o p = o := by simp [upd]
theorem upd_ne (G : Gr) {p q : Path} (o : Option Nod) (h : q ≠ p) : upd G p o q = G q := by simp [upd, h]
def kids (G : Gr) (p : Path) (l : List UInt8) : Option Nat := (G (p ++ [l])).map (·.blk)
/-- the map of the nodes below -/
def BelIs (w : World) (G : Gr) (p : Path) (mb : Option Nat) (M : Nat) : Prop := ∃ D, MapR w 9 pel mb M D ∧ ∀ l, Maps.has D (.string l) = (kids G p l).isSome ∧ D.atKey (.string l) .nil = kidD (kids G p l)
/-- what a client's subscription may be -/
def RwOk (x : Rw) : Prop := x.c.size ≤ 70000 ∧ x.s.f.size ≤ 70000 ∧ okF x.s.f = true
/-- the map of the subscriptions -/
def SubIs (w : World) (S : Rw → Prop) (p : Path) (mb : Option Nat) (M : Nat) : Prop := ∃ D, MapR w 66 sel mb M D ∧ (∀ x, S x → lv x.s.f = p → Maps.has D (kk x.c x.s.f) = true ∧ ∀ z, D.atKey (kk x.c x.s.f) z = sD x.s) ∧ ∀ c f, c.size ≤ maxLen → f.size ≤ maxLen → Maps.has D (kk c f) = true → ∃ x, S x ∧ x.c = c ∧ x.s.f = f ∧ lv f = p

/-- an index at block T: its nodes G, its subscriptions S, n of them, in blocks of F alone -/
structure TG (w : World) (T : Nat) (S : Rw → Prop) (n : Int) (F : Nat → Prop) (M : Nat) (G : Gr) : Prop where
  root : ∃ a, G [] = some a ∧ a.blk = T ∧ a.tl = [.int .i64 n]
  par : ∀ p l a, G (p ++ [l]) = some a → ∃ b, G p = some b
  dep : ∀ p a, G p = some a → p.length ≤ 32
  sep : ∀ p q a b, G p = some a → G q = some b → ∀ k, k ∈ a.blks → k ∈ b.blks → p = q
  own : ∀ p a, G p = some a → a.blks.Nodup
  foot : ∀ p a, G p = some a → ∀ k ∈ a.blks, F k
  low : ∀ k, F k → k < w.heap.size
  row : ∀ x, S x → RwOk x ∧ ∃ a, G (lv x.s.f) = some a
  cell : ∀ p a, G p = some a → w.heap[a.blk]? = some (nodeO a)
  bel : ∀ p a, G p = some a → BelIs w G p a.bm M
  sub : ∀ p a, G p = some a → SubIs w S p a.sm M

theorem RwOk.c {x : Rw} (h : RwOk x) : x.c.size ≤ maxLen := by have := h.1; unfold maxLen; omega
theorem RwOk.f {x : Rw} (h : RwOk x) : x.s.f.size ≤ maxLen := by have := h.2.1; unfold maxLen; omega
theorem mem_bm {a : Nod} {b : Nat} (h : a.bm = some b) : b ∈ a.blks := by simp [Nod.blks, h]
theorem mem_sm {a : Nod} {b : Nat} (h : a.sm = some b) : b ∈ a.blks := by simp [Nod.blks, h]
theorem mem_blk (a : Nod) : a.blk ∈ a.blks := by simp [Nod.blks]
theorem BelIs.keep {w w' : World} {G : Gr} {p : Path} {mb : Option Nat} {M M' : Nat} (h : BelIs w G p mb M) (e : ∀ b, mb = some b → w'.heap[b]? = w.heap[b]?) (hM : M ≤ M') : BelIs w' G p mb M' := by
  obtain ⟨D, h1, h2⟩ := h
  exact ⟨D, (h1.keep e).mono hM, h2⟩
theorem BelIs.kids {w : World} {G G' : Gr} {p : Path} {mb : Option Nat} {M : Nat} (h : BelIs w G p mb M) (e : ∀ l, Y.kids G' p l = Y.kids G p l) : BelIs w G' p mb M := by
  obtain ⟨D, h1, h2⟩ := h
  exact ⟨D, h1, fun l => by rw [e l]; exact h2 l⟩
theorem SubIs.keep {w w' : World} {S : Rw → Prop} {p : Path} {mb : Option Nat} {M M' : Nat} (h : SubIs w S p mb M) (e : ∀ b, mb = some b → w'.heap[b]? = w.heap[b]?) (hM : M ≤ M') : SubIs w' S p mb M' := by
  obtain ⟨D, h1, h2⟩ := h
  exact ⟨D, (h1.keep e).mono hM, h2⟩
theorem SubIs.rows {w : World} {S S' : Rw → Prop} {p : Path} {mb : Option Nat} {M : Nat} (h : SubIs w S p mb M) (e : ∀ x, lv x.s.f = p → (S' x ↔ S x)) : SubIs w S' p mb M := by
  obtain ⟨D, h1, h2, h3⟩ := h
  refine ⟨D, h1, fun x hx hp => h2 x ((e x hp).1 hx) hp, fun c f hc hf hh => ?_⟩
  obtain ⟨x, hx, e1, e2, e3⟩ := h3 c f hc hf hh
  exact ⟨x, (e x (by rw [e2]; exact e3)).2 hx, e1, e2, e3⟩
/-- two of one client and one filter are one -/
theorem TG.uniq {w : World} {T : Nat} {S : Rw → Prop} {n : Int} {F : Nat → Prop} {M : Nat} {G : Gr} (h : TG w T S n F M G) {x y : Rw} (hx : S x) (hy : S y) (hc : x.c = y.c) (hf : x.s.f = y.s.f) : x = y := by
  obtain ⟨a, ha⟩ := (h.row x hx).2
  obtain ⟨D, _, h2, _⟩ := h.sub _ a ha
  have e1 := (h2 x hx rfl).2 .nil
  have e2 := (h2 y hy (by rw [hf])).2 .nil
  rw [hc, hf, e2] at e1
  obtain ⟨c, s⟩ := x
  obtain ⟨c', s'⟩ := y
  simp only at hc e1
  rw [hc, sD_inj e1]
/-- what else turns does not matter -/
theorem TG.keep {w w' : World} {T : Nat} {S : Rw → Prop} {n : Int} {F : Nat → Prop} {M : Nat} {G : Gr} (h : TG w T S n F M G) (hs : w.heap.size ≤ w'.heap.size) (e : ∀ k, F k → w'.heap[k]? = w.heap[k]?) : TG w' T S n F M G where
  root := h.root
  par := h.par
  dep := h.dep
  sep := h.sep
  own := h.own
  foot := h.foot
  low := fun k hk => Nat.lt_of_lt_of_le (h.low k hk) hs
  row := h.row
  cell := fun p a ha => (e _ (h.foot p a ha _ (mem_blk a))).trans (h.cell p a ha)
  bel := fun p a ha => (h.bel p a ha).keep (fun b hb => e b (h.foot p a ha b (mem_bm hb))) (Nat.le_refl _)
  sub := fun p a ha => (h.sub p a ha).keep (fun b hb => e b (h.foot p a ha b (mem_sm hb))) (Nat.le_refl _)
theorem TG.fr {w w' : World} {T : Nat} {S : Rw → Prop} {n : Int} {F K : Nat → Prop} {M : Nat} {G : Gr} (h : TG w T S n F M G) (hf : Fr K w w') (hK : ∀ k, F k → ¬ K k) : TG w' T S n F M G := h.keep hf.size (fun k hk => hf.block k (h.low k hk) (hK k hk))
theorem TG.below {w w' : World} {T : Nat} {S : Rw → Prop} {n : Int} {F : Nat → Prop} {M : Nat} {G : Gr} (h : TG w T S n F M G) (hb : Below w.heap.size w w') : TG w' T S n F M G := h.keep hb.size (fun k hk => hb.block k (h.low k hk))
theorem kids_upd {G : Gr} {p : Path} {a a' : Nod} (hp : G p = some a) (hb : a'.blk = a.blk) (q : Path) (l : List UInt8) : kids (upd G p (some a')) q l = kids G q l := by
  unfold kids
  by_cases e : q ++ [l] = p
  · rw [e, upd_same, hp]; simp [hb]
  · rw [upd_ne G _ e]
theorem path_ne (p : Path) (l : List UInt8) : p ++ [l] ≠ p := fun e => by have := congrArg List.length e; simp at this
/-- a node's maps turn -/
theorem TG.set {w w' : World} {T : Nat} {S S' : Rw → Prop} {n n' : Int} {F F' : Nat → Prop} {M M' : Nat} {G : Gr} {p : Path} {a a' : Nod} (h : TG w T S n F M G) (hp : G p = some a)
    (hk : ∀ k, F k → k ∉ a.blks → w'.heap[k]? = w.heap[k]?) (hF : ∀ k, F k → F' k) (hF' : ∀ k, F' k → k < w'.heap.size)
    (hb : a'.blk = a.blk) (hroot : p = [] → a'.tl = [.int .i64 n']) (hroot' : p ≠ [] → n' = n) (hn : ∀ k ∈ a'.blks, k ∈ a.blks ∨ (w.heap.size ≤ k ∧ F' k)) (hnd : a'.blks.Nodup) (hc : w'.heap[a'.blk]? = some (nodeO a'))
    (hB : BelIs w' G p a'.bm M') (hS : SubIs w' S' p a'.sm M') (hM : M ≤ M') (hrow : ∀ x, lv x.s.f ≠ p → (S' x ↔ S x)) (hok : ∀ x, S' x → RwOk x) : TG w' T S' n' F' M' (upd G p (some a')) := by
  have hin : ∀ q b, q ≠ p → G q = some b → ∀ k ∈ b.blks, k ∉ a.blks := fun q b hq hb k hk1 hk2 => hq (h.sep q p b a hb hp k hk1 hk2)
  have hget : ∀ q b, upd G p (some a') q = some b → (q = p ∧ b = a') ∨ (q ≠ p ∧ G q = some b) := fun q b e => by
    by_cases hq : q = p
    · subst hq; rw [upd_same] at e; exact .inl ⟨rfl, (Option.some.inj e).symm⟩
    · rw [upd_ne G _ hq] at e; exact .inr ⟨hq, e⟩
  refine ⟨?_, ?_, ?_, ?_, ?_, ?_, hF', ?_, ?_, ?_, ?_⟩
  · obtain ⟨r, h1, h2, h3⟩ := h.root
    by_cases e : ([] : Path) = p
    · have hra : r = a := Option.some.inj (by rw [← h1, e]; exact hp)
      exact ⟨a', by rw [← e]; exact upd_same _ _ _, by rw [hb, ← hra]; exact h2, hroot e.symm⟩
    · exact ⟨r, by rw [upd_ne G _ e]; exact h1, h2, by rw [h3, hroot' (Ne.symm e)]⟩
  · intro q l b e
    have hG : ∃ c, G (q ++ [l]) = some c := by
      rcases hget _ _ e with ⟨e1, _⟩ | ⟨_, e2⟩
      · exact ⟨a, by rw [e1]; exact hp⟩
      · exact ⟨b, e2⟩
    obtain ⟨c, hcG⟩ := hG
    obtain ⟨d, hd⟩ := h.par q l c hcG
    by_cases hq : q = p
    · exact ⟨a', by rw [hq]; exact upd_same _ _ _⟩
    · exact ⟨d, by rw [upd_ne G _ hq]; exact hd⟩
  · intro q b e
    rcases hget _ _ e with ⟨rfl, _⟩ | ⟨_, e2⟩
    · exact h.dep q a hp
    · exact h.dep q b e2
  · intro q r b c e1 e2 k hk1 hk2
    rcases hget _ _ e1 with ⟨rfl, rfl⟩ | ⟨hq, e1'⟩ <;> rcases hget _ _ e2 with ⟨rfl, rfl⟩ | ⟨hr, e2'⟩
    · rfl
    · rcases hn k hk1 with h1 | ⟨h1, _⟩
      · exact h.sep q r a c hp e2' k h1 hk2
      · exact absurd (h.low k (h.foot r c e2' k hk2)) (by omega)
    · rcases hn k hk2 with h1 | ⟨h1, _⟩
      · exact h.sep q r b a e1' hp k hk1 h1
      · exact absurd (h.low k (h.foot q b e1' k hk1)) (by omega)
    · exact h.sep q r b c e1' e2' k hk1 hk2
  · intro q b e
    rcases hget _ _ e with ⟨_, rfl⟩ | ⟨_, e2⟩
    · exact hnd
    · exact h.own q b e2
  · intro q b e k hk1
    rcases hget _ _ e with ⟨_, rfl⟩ | ⟨_, e2⟩
    · rcases hn k hk1 with h1 | ⟨_, h1⟩
      · exact hF k (h.foot p a hp k h1)
      · exact h1
    · exact hF k (h.foot q b e2 k hk1)
  · intro x hx
    refine ⟨hok x hx, ?_⟩
    by_cases e : lv x.s.f = p
    · exact ⟨a', by rw [e]; exact upd_same _ _ _⟩
    · obtain ⟨b, hb⟩ := (h.row x ((hrow x e).1 hx)).2
      exact ⟨b, by rw [upd_ne G _ e]; exact hb⟩
  · intro q b e
    rcases hget _ _ e with ⟨_, rfl⟩ | ⟨hq, e2⟩
    · exact hc
    · rw [hk _ (h.foot q b e2 _ (mem_blk b)) (hin q b hq e2 _ (mem_blk b))]; exact h.cell q b e2
  · intro q b e
    rcases hget _ _ e with ⟨rfl, rfl⟩ | ⟨hq, e2⟩
    · exact hB.kids (fun l => kids_upd hp hb q l)
    · exact ((h.bel q b e2).keep (fun c hc => hk c (h.foot q b e2 c (mem_bm hc)) (hin q b hq e2 c (mem_bm hc))) hM).kids (fun l => kids_upd hp hb q l)
  · intro q b e
    rcases hget _ _ e with ⟨rfl, rfl⟩ | ⟨hq, e2⟩
    · exact hS
    · exact ((h.sub q b e2).keep (fun c hc => hk c (h.foot q b e2 c (mem_sm hc)) (hin q b hq e2 c (mem_sm hc))) hM).rows (fun x hx => hrow x (by rw [hx]; exact hq))
/-- a node more -/
theorem TG.add {w w' : World} {T : Nat} {S : Rw → Prop} {n : Int} {F F' : Nat → Prop} {M : Nat} {G : Gr} {p : Path} {l : List UInt8} {a : Nod} {b nb : Nat} {D : DataW Unit} (h : TG w T S n F M G) (hp : G p = some a) (hbm : a.bm = some b)
    (hD : w.ownsMap Tryz.prog 9 pel b M D) (hD2 : ∀ l, Maps.has D (.string l) = (kids G p l).isSome ∧ D.atKey (.string l) .nil = kidD (kids G p l)) (hl : kids G p l = none) (hdep : p.length < 32)
    (hnb : w.heap.size ≤ nb) (hk : ∀ k, F k → k ≠ b → w'.heap[k]? = w.heap[k]?) (hF : ∀ k, F k → F' k) (hFn : F' nb) (hF' : ∀ k, F' k → k < w'.heap.size)
    (hc : w'.heap[nb]? = some (nodeO ⟨nb, none, none, [], 57⟩)) (hD' : w'.ownsMap Tryz.prog 9 pel b (M + 1) (D.put (.string l) (.lit (.int .i64 nb)))) : TG w' T S n F' (M + 1) (upd G (p ++ [l]) (some ⟨nb, none, none, [], 57⟩)) := by
  have hG : G (p ++ [l]) = none := by unfold kids at hl; simpa using hl
  have hbF : F b := h.foot p a hp b (mem_bm hbm)
  have hget : ∀ q c, upd G (p ++ [l]) (some ⟨nb, none, none, [], 57⟩) q = some c → (q = p ++ [l] ∧ c = ⟨nb, none, none, [], 57⟩) ∨ (q ≠ p ++ [l] ∧ G q = some c) := fun q c e => by
    by_cases hq : q = p ++ [l]
    · subst hq; rw [upd_same] at e; exact .inl ⟨rfl, (Option.some.inj e).symm⟩
    · rw [upd_ne G _ hq] at e; exact .inr ⟨hq, e⟩
  have hlow : ∀ q c, G q = some c → ∀ k ∈ c.blks, k ≠ nb := fun q c e k hk e2 => by have := h.low k (h.foot q c e k hk); omega
  have hnk : ∀ q c, G q = some c → q ≠ p → ∀ k ∈ c.blks, k ≠ b := fun q c e hq k hk e2 => hq (h.sep q p c a e hp k hk (by rw [e2]; exact mem_bm hbm))
  have hkid : ∀ q l', q ++ [l'] ≠ p ++ [l] → kids (upd G (p ++ [l]) (some ⟨nb, none, none, [], 57⟩)) q l' = kids G q l' := fun q l' e => by unfold kids; rw [upd_ne G _ e]
  have happ : ∀ (q : Path) (l' : List UInt8), q ++ [l'] = p ++ [l] → q = p ∧ l' = l := fun q l' e => by
    have := List.append_inj' e rfl
    exact ⟨this.1, by simpa using this.2⟩
  refine ⟨?_, ?_, ?_, ?_, ?_, ?_, hF', ?_, ?_, ?_, ?_⟩
  · obtain ⟨r, h1, h2, h3⟩ := h.root
    exact ⟨r, by rw [upd_ne G _ (fun e => by have := congrArg List.length e; simp at this)]; exact h1, h2, h3⟩
  · intro q l' c e
    rcases hget _ _ e with ⟨e1, _⟩ | ⟨_, e2⟩
    · obtain ⟨rfl, rfl⟩ := happ q l' e1
      exact ⟨a, by rw [upd_ne G _ (Ne.symm (path_ne q l'))]; exact hp⟩
    · obtain ⟨d, hd⟩ := h.par q l' c e2
      by_cases hq : q = p ++ [l]
      · exact ⟨_, by rw [hq]; exact upd_same _ _ _⟩
      · exact ⟨d, by rw [upd_ne G _ hq]; exact hd⟩
  · intro q c e
    rcases hget _ _ e with ⟨rfl, _⟩ | ⟨_, e2⟩
    · simp; omega
    · exact h.dep q c e2
  · intro q r c d e1 e2 k hk1 hk2
    rcases hget _ _ e1 with ⟨rfl, rfl⟩ | ⟨_, e1'⟩ <;> rcases hget _ _ e2 with ⟨rfl, rfl⟩ | ⟨_, e2'⟩
    · rfl
    · simp [Nod.blks] at hk1; exact absurd hk1 (hlow r d e2' k hk2)
    · simp [Nod.blks] at hk2; exact absurd hk2 (hlow q c e1' k hk1)
    · exact h.sep q r c d e1' e2' k hk1 hk2
  · intro q c e
    rcases hget _ _ e with ⟨_, rfl⟩ | ⟨_, e2⟩
    · simp [Nod.blks]
    · exact h.own q c e2
  · intro q c e k hk1
    rcases hget _ _ e with ⟨_, rfl⟩ | ⟨_, e2⟩
    · simp [Nod.blks] at hk1; rw [hk1]; exact hFn
    · exact hF k (h.foot q c e2 k hk1)
  · intro x hx
    obtain ⟨h1, c, hc⟩ := h.row x hx
    exact ⟨h1, c, by rw [upd_ne G _ (fun e => by rw [e, hG] at hc; cases hc)]; exact hc⟩
  · intro q c e
    rcases hget _ _ e with ⟨_, rfl⟩ | ⟨_, e2⟩
    · exact hc
    · rw [hk _ (h.foot q c e2 _ (mem_blk c)) (fun e3 => by
        by_cases hq : q = p
        · subst hq
          have hca : c = a := Option.some.inj (by rw [← e2]; exact hp)
          subst hca
          have := h.own q c e2
          rw [Nod.blks, hbm, ← e3] at this
          simp at this
        · exact hnk q c e2 hq _ (mem_blk c) e3)]
      exact h.cell q c e2
  · intro q c e
    rcases hget _ _ e with ⟨rfl, rfl⟩ | ⟨_, e2⟩
    · refine ⟨.map [], rfl, fun l' => ?_⟩
      have : kids (upd G (p ++ [l]) (some ⟨nb, none, none, [], 57⟩)) (p ++ [l]) l' = none := by
        rw [hkid _ _ (path_ne _ _)]
        unfold kids
        cases e3 : G (p ++ [l] ++ [l']) with
        | none => rfl
        | some d => obtain ⟨d', hd'⟩ := h.par _ _ _ e3; rw [hG] at hd'; cases hd'
      rw [this]
      exact ⟨rfl, rfl⟩
    · by_cases hq : q = p
      · subst hq
        have hca : c = a := Option.some.inj (by rw [← e2]; exact hp)
        subst hca
        rw [hbm]
        refine ⟨_, hD', fun l' => ?_⟩
        by_cases hl' : l' = l
        · subst hl'
          have e3 : kids (upd G (q ++ [l']) (some ⟨nb, none, none, [], 57⟩)) q l' = some nb := by unfold kids; rw [upd_same]; rfl
          rw [e3, has_put_same hD.isMap (show WideAt.IsKeyLit (.string l') from trivial), atKey_put_same hD.isMap (show WideAt.IsKeyLit (.string l') from trivial)]
          exact ⟨rfl, rfl⟩
        · rw [hkid q l' (fun e => hl' (happ q l' e).2), has_put_other (by simpa using hl'), atKey_put_other (by simpa using hl')]
          exact hD2 l'
      · refine ((h.bel q c e2).keep (fun d hd => hk d (h.foot q c e2 d (mem_bm hd)) (hnk q c e2 hq d (mem_bm hd))) (Nat.le_succ _)).kids (fun l' => hkid q l' (fun e => hq (happ q l' e).1))
  · intro q c e
    rcases hget _ _ e with ⟨rfl, rfl⟩ | ⟨_, e2⟩
    · refine ⟨.map [], rfl, fun x hx e3 => ?_, fun c f _ _ e3 => by cases e3⟩
      obtain ⟨_, d, hd⟩ := h.row x hx
      rw [e3, hG] at hd
      cases hd
    · refine (h.sub q c e2).keep (fun d hd => hk d (h.foot q c e2 d (mem_sm hd)) (fun e3 => ?_)) (Nat.le_succ _)
      by_cases hq : q = p
      · subst hq
        have hca : c = a := Option.some.inj (by rw [← e2]; exact hp)
        subst hca
        have := h.own q c e2
        rw [Nod.blks, hbm, hd, e3] at this
        simp at this
      · exact hnk q c e2 hq d (mem_sm hd) e3
/-- a bare node less -/
theorem TG.cut {w w' : World} {T : Nat} {S : Rw → Prop} {n : Int} {F : Nat → Prop} {M : Nat} {G : Gr} {p : Path} {l : List UInt8} {a : Nod} {b : Nat} {D : DataW Unit} (h : TG w T S n F M G) (hp : G p = some a) (hbm : a.bm = some b)
    (hD2 : ∀ l, Maps.has D (.string l) = (kids G p l).isSome ∧ D.atKey (.string l) .nil = kidD (kids G p l)) (hnk0 : ∀ l', kids G (p ++ [l]) l' = none) (hnr : ∀ x, S x → lv x.s.f ≠ p ++ [l])
    (hsz : w.heap.size ≤ w'.heap.size) (hk : ∀ k, F k → k ≠ b → w'.heap[k]? = w.heap[k]?)
    (hD' : w'.ownsMap Tryz.prog 9 pel b M (D.del (.string l))) : TG w' T S n F M (upd G (p ++ [l]) none) := by
  have hget : ∀ q c, upd G (p ++ [l]) none q = some c → q ≠ p ++ [l] ∧ G q = some c := fun q c e => by
    by_cases hq : q = p ++ [l]
    · subst hq; rw [upd_same] at e; cases e
    · rw [upd_ne G _ hq] at e; exact ⟨hq, e⟩
  have hnk : ∀ q c, G q = some c → q ≠ p → ∀ k ∈ c.blks, k ≠ b := fun q c e hq k hk e2 => hq (h.sep q p c a e hp k hk (by rw [e2]; exact mem_bm hbm))
  have hkid : ∀ q l', q ++ [l'] ≠ p ++ [l] → kids (upd G (p ++ [l]) none) q l' = kids G q l' := fun q l' e => by unfold kids; rw [upd_ne G _ e]
  have happ : ∀ (q : Path) (l' : List UInt8), q ++ [l'] = p ++ [l] → q = p ∧ l' = l := fun q l' e => by
    have := List.append_inj' e rfl
    exact ⟨this.1, by simpa using this.2⟩
  refine ⟨?_, ?_, fun q c e => h.dep q c (hget _ _ e).2, fun q r c d e1 e2 => h.sep q r c d (hget _ _ e1).2 (hget _ _ e2).2, fun q c e => h.own q c (hget _ _ e).2, fun q c e => h.foot q c (hget _ _ e).2, fun k hk => Nat.lt_of_lt_of_le (h.low k hk) hsz, ?_, ?_, ?_, ?_⟩
  · obtain ⟨r, h1, h2, h3⟩ := h.root
    exact ⟨r, by rw [upd_ne G _ (fun e => by have := congrArg List.length e; simp at this)]; exact h1, h2, h3⟩
  · intro q l' c e
    have e2 := (hget _ _ e).2
    obtain ⟨d, hd⟩ := h.par q l' c e2
    by_cases hq : q = p ++ [l]
    · have := hnk0 l'
      unfold kids at this
      rw [← hq, e2] at this
      cases this
    · exact ⟨d, by rw [upd_ne G _ hq]; exact hd⟩
  · intro x hx
    obtain ⟨h1, c, hc⟩ := h.row x hx
    exact ⟨h1, c, by rw [upd_ne G _ (hnr x hx)]; exact hc⟩
  · intro q c e
    have e2 := (hget _ _ e).2
    rw [hk _ (h.foot q c e2 _ (mem_blk c)) (fun e3 => by
      by_cases hq : q = p
      · subst hq
        have hca : c = a := Option.some.inj (by rw [← e2]; exact hp)
        subst hca
        have := h.own q c e2
        rw [Nod.blks, hbm, ← e3] at this
        simp at this
      · exact hnk q c e2 hq _ (mem_blk c) e3)]
    exact h.cell q c e2
  · intro q c e
    have e2 := (hget _ _ e).2
    by_cases hq : q = p
    · subst hq
      have hca : c = a := Option.some.inj (by rw [← e2]; exact hp)
      subst hca
      rw [hbm]
      refine ⟨_, hD', fun l' => ?_⟩
      by_cases hl' : l' = l
      · subst hl'
        have e3 : kids (upd G (q ++ [l']) none) q l' = none := by unfold kids; rw [upd_same]; rfl
        rw [e3, has_del_same, atKey_del_same]
        exact ⟨rfl, rfl⟩
      · rw [hkid q l' (fun e => hl' (happ q l' e).2), has_del_other (by simpa using hl'), atKey_del_other (by simpa using hl')]
        exact hD2 l'
    · refine ((h.bel q c e2).keep (fun d hd => hk d (h.foot q c e2 d (mem_bm hd)) (hnk q c e2 hq d (mem_bm hd))) (Nat.le_refl _)).kids (fun l' => hkid q l' (fun e => hq (happ q l' e).1))
  · intro q c e
    have e2 := (hget _ _ e).2
    refine (h.sub q c e2).keep (fun d hd => hk d (h.foot q c e2 d (mem_sm hd)) (fun e3 => ?_)) (Nat.le_refl _)
    by_cases hq : q = p
    · subst hq
      have hca : c = a := Option.some.inj (by rw [← e2]; exact hp)
      subst hca
      have := h.own q c e2
      rw [Nod.blks, hbm, hd, e3] at this
      simp at this
    · exact hnk q c e2 hq d (mem_sm hd) e3
end Go.Proofs.YtdjpllmgjmnolaaGreatDoor.Y
