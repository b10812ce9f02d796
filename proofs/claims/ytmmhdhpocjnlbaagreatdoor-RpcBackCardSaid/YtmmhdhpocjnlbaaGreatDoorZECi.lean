/- Proved here: blocks of one's own, whole; slices that may be cut, and append of what they hold. Helper laws. -/
import Derived.Test.YtmmhdhpocjnlbaaGreatDoorZESp
import Derived.Deep.WholeRow
import Derived.Maps.AppendAt
namespace Go.Proofs.YtmmhdhpocjnlbaaGreatDoor.Nt
open Go.RowKit
set_option maxRecDepth 100000

theorem wpList_value {P : Program} {ops : Array Oper} {rest : List Oper} {o : Oper} {a : Act} {w w' : World} {v : Value} {Q : Exit → Act → World → Prop} (hg : o.guard = none) (hr : (execOp a.eval o).run P w = .ok (.value v) w') (h : wpList P ops Q rest (a.put o.dst v) w') : wpList P ops Q (o :: rest) a w :=
  wpList_plain hg fun K hK => by unfold Oper.wp; rw [hr]; exact hK _ _ h
theorem wpList_skip {P : Program} {ops : Array Oper} {rest : List Oper} {o : Oper} {a : Act} {w w' : World} {Q : Exit → Act → World → Prop} (hg : o.guard = none) (hr : (execOp a.eval o).run P w = .ok .skip w') (h : wpList P ops Q rest (a.put o.dst undef) w') : wpList P ops Q (o :: rest) a w :=
  wpList_plain hg fun K hK => by unfold Oper.wp; rw [hr]; exact hK _ _ h
theorem setCells_other (R : Nat) (k : Nat) (h : k ≠ R) : ∀ (cs : List Value) (i : Nat) (w : World), (w.setCells R i cs).heap[k]? = w.heap[k]?
  | [], _, _ => rfl
  | v :: r, i, w => (setCells_other R k h r (i + 1) (w.setCell ⟨R, i, none⟩ v)).trans (Below.heap_setCell _ _ _ _ (by show k ≠ R; exact h))
theorem setCells_size (R : Nat) : ∀ (cs : List Value) (i : Nat) (w : World), (w.setCells R i cs).heap.size = w.heap.size
  | [], _, _ => rfl
  | v :: r, i, w => (setCells_size R r (i + 1) (w.setCell ⟨R, i, none⟩ v)).trans (by simp [World.setCell])
theorem setCells_fr {F : Nat → Prop} (b : Nat) (hF : F b) : ∀ (cs : List Value) (i : Nat) (w : World), Fr F w (w.setCells b i cs)
  | [], _, w => Fr.refl F w
  | v :: r, i, w => Fr.trans (set_fr hF) (setCells_fr b hF r (i + 1) (w.setCell ⟨b, i, none⟩ v))
theorem setCells_sf {T : Nat → Prop} (b : Nat) (hT : T b) : ∀ (cs : List Value) (i : Nat) (w : World), SF T w (w.setCells b i cs)
  | [], _, w => SF.refl T w
  | v :: r, i, w => ((SF.refl T w).set b i v hT).trans (setCells_sf b hT r (i + 1) (w.setCell ⟨b, i, none⟩ v))
theorem owns_setCells {B : Nat} {e : TypeId} {s g n cap : Nat} : ∀ (vs : List Value) (o : Nat) (w : World) (ys : List Value), w.ownsRow B e s (.slice (some ⟨g, 0, none⟩) n cap) n ys → ∃ zs, (w.setCells g o vs).ownsRow B e s (.slice (some ⟨g, 0, none⟩) n cap) n zs ∧ ∀ j, o + vs.length ≤ j → zs[j]? = ys[j]?
  | [], _, _, ys, h => ⟨ys, h, fun _ _ => rfl⟩
  | v :: r, o, w, ys, h => by
    obtain ⟨zs, h1, h2⟩ := owns_setCells r (o + 1) _ _ (h.stored o v).1
    refine ⟨zs, h1, fun j hj => ?_⟩
    rw [List.length_cons] at hj
    rw [h2 j (by omega), List.getElem?_set_ne (by omega)]
/-- the block b holds the cells cs, and they may be set -/
def Bx (w : World) (b : Nat) (cs : List Value) (t : TypeId) : Prop := w.heap[b]? = some (.cells cs.toArray t (0, 0))
theorem Bx.new (w : World) (cs : List Value) (t : TypeId) (b : Nat) (h : b = w.heap.size) : Bx (w.alloc (.cells cs.toArray t)) b cs t := by subst h; exact heap_alloc_last w _
theorem Bx.below {w w' : World} {b : Nat} {cs : List Value} {t : TypeId} (h : Bx w b cs t) (hb : Below w.heap.size w w') : Bx w' b cs t := (hb.block b (Array.getElem?_eq_some_iff.1 h).1).trans h
theorem Bx.fr {F : Nat → Prop} {w w' : World} {b : Nat} {cs : List Value} {t : TypeId} (h : Bx w b cs t) (hf : Fr F w w') (hb : ¬ F b) : Bx w' b cs t := (hf.block b (Array.getElem?_eq_some_iff.1 h).1 hb).trans h
theorem Bx.lt {w : World} {b : Nat} {cs : List Value} {t : TypeId} (h : Bx w b cs t) : b < w.heap.size := (Array.getElem?_eq_some_iff.1 h).1
theorem Bx.cell {w : World} {b : Nat} {cs : List Value} {t : TypeId} (h : Bx w b cs t) (j : Nat) (v : Value) (hj : cs[j]? = some v) : w.cell? ⟨b, j, none⟩ = some v := by rw [cell_of h, List.getElem?_toArray]; exact hj
theorem Bx.frz {w : World} {b : Nat} {cs : List Value} {t : TypeId} (h : Bx w b cs t) (j : Nat) : w.frozen? ⟨b, j, none⟩ = false := frozen_of h j
theorem Bx.range {w : World} {b : Nat} {cs : List Value} {t : TypeId} (h : Bx w b cs t) : w.rangeAt b 0 cs := fun j v hv => by rw [Nat.zero_add]; exact h.cell j v hv
theorem Bx.there {w : World} {b : Nat} {cs : List Value} {t : TypeId} (h : Bx w b cs t) (n : Nat) (hn : n ≤ cs.length) : w.there b 0 n := fun j hj => by
  rw [Nat.zero_add]
  exact ⟨by rw [h.cell j _ (List.getElem?_eq_getElem (by omega))]; rfl, h.frz j⟩
theorem Bx.set {w : World} {b : Nat} {cs : List Value} {t : TypeId} (h : Bx w b cs t) (j : Nat) (v : Value) (hj : j < cs.length) : Bx (w.setCell ⟨b, j, none⟩ v) b (cs.set j v) t := by
  have := set_heap h j v (by simpa using hj)
  unfold Bx
  rw [this]
  simp
theorem Bx.set_ne {w : World} {b d : Nat} {cs : List Value} {t : TypeId} (h : Bx w b cs t) (j : Nat) (v : Value) (hd : b ≠ d) : Bx (w.setCell ⟨d, j, none⟩ v) b cs t := (Below.heap_setCell _ _ _ _ hd).trans h

/-- the value is a slice of n elements of s cells each, and reads as these cells -/
def CIn (w : World) (v : Value) (n s : Nat) (xs : List Value) : Prop := xs.length = n * s ∧ ∃ ao cap, v = .slice ao n cap ∧ ((ao = none ∧ n = 0 ∧ cap = 0) ∨ ∃ a, ao = some a ∧ ∀ j u, xs[j]? = some u → w.cell? (a.add j) = some u)
theorem CIn.below {w w' : World} {v : Value} {n s : Nat} {xs : List Value} (h : CIn w v n s xs) (hb : Below w.heap.size w w') : CIn w' v n s xs := by
  obtain ⟨h0, ao, cap, h1, h2⟩ := h
  refine ⟨h0, ao, cap, h1, ?_⟩
  rcases h2 with h2 | ⟨a, e, hc⟩
  · exact .inl h2
  · refine .inr ⟨a, e, fun j u hj => ?_⟩
    have := hc j u hj
    exact (hb.cell (cell_lt this)).trans this
theorem CIn.lit {w : World} {b : Nat} {xs : List Value} {s : Nat} {t : TypeId} (h : Bx w b xs t) (hl : xs.length = s) : CIn w (.slice (some ⟨b, 0, none⟩) 1 1) 1 s xs :=
  ⟨by omega, _, 1, rfl, .inr ⟨_, rfl, fun j u hj => by rw [Addr.add_mid, Nat.zero_add]; exact h.cell j u hj⟩⟩
theorem CIn.lo {w : World} {B : Nat} {e : TypeId} {s n cap : Nat} {ao : Option Addr} {xs : List Value} (h : w.ownsRow B e s (.slice ao n cap) n xs) (k : Nat) (hk : k ≤ n) : CIn w (.slice ao k cap) k s (xs.take (k * s)) := by
  refine ⟨by rw [List.length_take, h.1]; exact Nat.min_eq_left (Nat.mul_le_mul_right s hk), ao, cap, rfl, ?_⟩
  rcases h.2 with ⟨e, h0⟩ | ⟨g, c, cur, e, _⟩
  · simp only [Value.slice.injEq] at e
    exact .inl ⟨e.1, by omega, e.2.2⟩
  · simp only [Value.slice.injEq] at e
    obtain ⟨rfl, _, rfl⟩ := e
    refine .inr ⟨_, rfl, fun j u hj => ?_⟩
    rw [Addr.add_mid, Nat.zero_add]
    have hjl := (List.getElem?_eq_some_iff.1 hj).1
    rw [List.length_take, h.1] at hjl
    rw [h.cellAt j (by omega)]
    rw [List.getElem?_take_of_lt (by omega)] at hj
    exact hj
/-- where a slice that is cut at k begins -/
def hiA (ao : Option Addr) (s cap k : Nat) : Option Addr := if cap = k then ao else ao.map (·.add (k * s))
theorem CIn.hi {w : World} {B : Nat} {e : TypeId} {s n cap : Nat} {ao : Option Addr} {xs : List Value} (h : w.ownsRow B e s (.slice ao n cap) n xs) (k : Nat) (hk : k ≤ n) : CIn w (.slice (hiA ao s cap k) (n - k) (cap - k)) (n - k) s (xs.drop (k * s)) := by
  refine ⟨by rw [List.length_drop, h.1, Nat.sub_mul], _, _, rfl, ?_⟩
  rcases h.2 with ⟨e, h0⟩ | ⟨g, c, cur, e, _, _, hnc, _⟩
  · simp only [Value.slice.injEq] at e
    obtain ⟨rfl, _, rfl⟩ := e
    exact .inl ⟨by unfold hiA; simp, by omega, by omega⟩
  · simp only [Value.slice.injEq] at e
    obtain ⟨rfl, _, rfl⟩ := e
    by_cases hc : cap = k
    · refine .inr ⟨_, by unfold hiA; rw [if_pos hc], fun j u hj => ?_⟩
      rw [List.drop_eq_nil_of_le (by rw [h.1]; exact Nat.mul_le_mul_right s (by omega))] at hj
      simp at hj
    · refine .inr ⟨_, by unfold hiA; rw [if_neg hc]; rfl, fun j u hj => ?_⟩
      show w.cell? (((⟨g, 0, none⟩ : Addr).add (k * s)).add j) = some u
      rw [Addr.add_mid, Addr.add_mid, Nat.zero_add]
      rw [List.getElem?_drop] at hj
      have hjl := (List.getElem?_eq_some_iff.1 hj).1
      rw [h.1] at hjl
      rw [h.cellAt _ hjl]
      exact hj
/-- append of what a slice holds to a row of one's own -/
theorem wpList_app_c (w : World) {ops : Array Oper} {rest : List Oper} {o : Oper} {a : Act} {Q : Exit → Act → World → Prop} (hgd : o.guard = none) (s x : Operand) (t : TypeId)
    (ho : o.op = .call { callee := .builtin .append, args := #[s, x], argTypes := #[t, t] })
    (base : Nat) (e : TypeId) (i : TypeInfo) (z : Value) (size bytes : Nat) (ht : Tryz.prog.underlying t = some (.slice e)) (hi : Tryz.prog.info? e = some i) (hz : i.zero = some z)
    (hsize : i.size = size) (hby : i.bytes = bytes) (hzs : z.cells.size = size) (hsz : 0 < size)
    (v vx : Value) (n m : Nat) (xs ys : List Value) (hs : a.eval s = v) (hx : a.eval x = vx) (hown : w.ownsRow base e size v n xs) (hy : CIn w vx m size ys) (h1 : ∀ u ∈ ys, u.oneCell' = true)
    (h63 : n + m ≤ maxLen) (hbytes : (n + m) * bytes ≤ 140737488355328) (hbase : base ≤ w.heap.size)
    (h : ∀ v' w', w'.ownsRow base e size v' (n + m) (xs ++ ys) → w.grownBy w' v.ownBlock → (v'.ownBlock = v.ownBlock ∨ v'.ownBlock = some w.heap.size) → wpList Tryz.prog ops Q rest (a.put o.dst v') w') : wpList Tryz.prog ops Q (o :: rest) a w := by
  refine wpList_plain hgd fun K hK => ?_
  obtain ⟨hyl, ao, cap, rfl, hc⟩ := hy
  have key : ∃ v' w', (Builtin.append_ #[t, t] o.type #[v, .slice ao m cap]).run Tryz.prog w = .ok v' w' ∧ w'.ownsRow base e size v' (n + m) (xs ++ ys) ∧ w.grownBy w' v.ownBlock ∧ (v'.ownBlock = v.ownBlock ∨ v'.ownBlock = some w.heap.size) := by
    rcases hc with ⟨rfl, rfl, rfl⟩ | ⟨ad, rfl, hc⟩
    · have hy0 : ys = [] := List.length_eq_zero_iff.1 (by omega)
      subst hy0
      refine ⟨v, w, run_append_owned_none (P := Tryz.prog) (w := w) base t o.type e i size ht hi v _ _ hown, by simpa using hown, ⟨rfl, rfl, rfl, Nat.le_refl _, fun _ _ _ => rfl⟩, .inl rfl⟩
    · obtain ⟨v', w', k1, k2, k3, _, k5⟩ := run_append_own_at (P := Tryz.prog) w base t o.type e i z size bytes ht hi hz hsize hby hzs hsz v n xs hown ad m cap ys hyl hc h1 h63 hbytes hbase
      exact ⟨v', w', k1, k2, k3, k5⟩
  obtain ⟨v', w', hr, h2, h3, h4⟩ := key
  unfold Oper.wp execOp
  simp only [ho, resolve, invoke, builtin, Sem.run_bind, Sem.run_pure, Result.andThen_ok, List.map_toArray, List.map_cons, List.map_nil, hs, hx, hr]
  exact hK _ _ (h v' w' h2 h3 h4)
end Go.Proofs.YtmmhdhpocjnlbaaGreatDoor.Nt
