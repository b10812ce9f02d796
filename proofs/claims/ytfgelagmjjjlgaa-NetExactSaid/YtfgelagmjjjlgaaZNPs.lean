/- Proved here: cut slices of rows of one's own, and append of what they hold. Helper laws. -/
import Derived.Test.YtfgelagmjjjlgaaZNOp
import Derived.Maps.AppendAt
namespace Go.Proofs.Ytfgelagmjjjlgaa.Nt
open Go.RowKit
set_option maxRecDepth 100000

/-- the value is a slice of n elements of s cells each, and reads as these cells -/
def CIn (w : World) (v : Value) (n s : Nat) (xs : List Value) : Prop := xs.length = n * s ∧ ∃ ao cap, v = .slice ao n cap ∧ ((ao = none ∧ n = 0 ∧ cap = 0) ∨ ∃ a, ao = some a ∧ ∀ j u, xs[j]? = some u → w.cell? (a.add j) = some u)
theorem CIn.below {w w' : World} {v : Value} {n s : Nat} {xs : List Value} (h : CIn w v n s xs) (hb : Below w.heap.size w w') : CIn w' v n s xs := by
  obtain ⟨h0, ao, cap, h1, h2⟩ := h
  refine ⟨h0, ao, cap, h1, ?_⟩
  rcases h2 with h2 | ⟨a, e, hc⟩
  · exact .inl h2
  · refine .inr ⟨a, e, fun j u hj => ?_⟩
    have := hc j u hj
    exact (hb.cell (cell_lt this)).trans this
theorem CIn.lit {w : World} {b : Nat} {xs : List Value} {s : Nat} {t : TypeId} (h : Bx w b xs t) (hl : xs.length = s) : CIn w (.slice (some ⟨b, 0, none⟩) 1 1) 1 s xs :=
  ⟨by omega, _, 1, rfl, .inr ⟨_, rfl, fun j u hj => by rw [Addr.add_mid, Nat.zero_add]; exact h.cell j u hj⟩⟩
theorem CIn.lo {w : World} {B : Nat} {e : TypeId} {s n cap : Nat} {ao : Option Addr} {xs : List Value} (h : w.ownsRow B e s (.slice ao n cap) n xs) (k : Nat) (hk : k ≤ n) : CIn w (.slice ao k cap) k s (xs.take (k * s)) := by
  refine ⟨by rw [List.length_take, h.1]; exact Nat.min_eq_left (Nat.mul_le_mul_right s hk), ao, cap, rfl, ?_⟩
  rcases h.2 with ⟨e, h0⟩ | ⟨g, c, cur, e, _⟩
  · simp only [Value.slice.injEq] at e
    exact .inl ⟨e.1, by omega, e.2.2⟩
  · simp only [Value.slice.injEq] at e
    obtain ⟨rfl, _, rfl⟩ := e
    refine .inr ⟨_, rfl, fun j u hj => ?_⟩
    rw [Addr.add_mid, Nat.zero_add]
    have hjl := (List.getElem?_eq_some_iff.1 hj).1
    rw [List.length_take, h.1] at hjl
    rw [h.cellAt j (by omega)]
    rw [List.getElem?_take_of_lt (by omega)] at hj
    exact hj
/-- where a slice that is cut at k begins -/
def hiA (ao : Option Addr) (s cap k : Nat) : Option Addr := if cap = k then ao else ao.map (·.add (k * s))
theorem CIn.hi {w : World} {B : Nat} {e : TypeId} {s n cap : Nat} {ao : Option Addr} {xs : List Value} (h : w.ownsRow B e s (.slice ao n cap) n xs) (k : Nat) (hk : k ≤ n) : CIn w (.slice (hiA ao s cap k) (n - k) (cap - k)) (n - k) s (xs.drop (k * s)) := by
  refine ⟨by rw [List.length_drop, h.1, Nat.sub_mul], _, _, rfl, ?_⟩
  rcases h.2 with ⟨e, h0⟩ | ⟨g, c, cur, e, _, _, hnc, _⟩
  · simp only [Value.slice.injEq] at e
    obtain ⟨rfl, _, rfl⟩ := e
    exact .inl ⟨by unfold hiA; simp, by omega, by omega⟩
  · simp only [Value.slice.injEq] at e
    obtain ⟨rfl, _, rfl⟩ := e
    by_cases hc : cap = k
    · refine .inr ⟨_, by unfold hiA; rw [if_pos hc], fun j u hj => ?_⟩
      rw [List.drop_eq_nil_of_le (by rw [h.1]; exact Nat.mul_le_mul_right s (by omega))] at hj
      simp at hj
    · refine .inr ⟨_, by unfold hiA; rw [if_neg hc]; rfl, fun j u hj => ?_⟩
      show w.cell? (((⟨g, 0, none⟩ : Addr).add (k * s)).add j) = some u
      rw [Addr.add_mid, Addr.add_mid, Nat.zero_add]
      rw [List.getElem?_drop] at hj
      have hjl := (List.getElem?_eq_some_iff.1 hj).1
      rw [h.1] at hjl
      rw [h.cellAt _ hjl]
      exact hj
/-- append of what a slice holds to a row of one's own -/
theorem wpList_app_c (w : World) {ops : Array Oper} {rest : List Oper} {o : Oper} {a : Act} {Q : Exit → Act → World → Prop} (hgd : o.guard = none) (s x : Operand) (t : TypeId)
    (ho : o.op = .call { callee := .builtin .append, args := #[s, x], argTypes := #[t, t] })
    (base : Nat) (e : TypeId) (i : TypeInfo) (z : Value) (size bytes : Nat) (ht : Try.prog.underlying t = some (.slice e)) (hi : Try.prog.info? e = some i) (hz : i.zero = some z)
    (hsize : i.size = size) (hby : i.bytes = bytes) (hzs : z.cells.size = size) (hsz : 0 < size)
    (v vx : Value) (n m : Nat) (xs ys : List Value) (hs : a.eval s = v) (hx : a.eval x = vx) (hown : w.ownsRow base e size v n xs) (hy : CIn w vx m size ys) (h1 : ∀ u ∈ ys, u.oneCell' = true)
    (h63 : n + m ≤ maxLen) (hbytes : (n + m) * bytes ≤ 140737488355328) (hbase : base ≤ w.heap.size)
    (h : ∀ v' w', w'.ownsRow base e size v' (n + m) (xs ++ ys) → w.grownBy w' v.ownBlock → (v'.ownBlock = v.ownBlock ∨ v'.ownBlock = some w.heap.size) → wpList Try.prog ops Q rest (a.put o.dst v') w') : wpList Try.prog ops Q (o :: rest) a w := by
  refine wpList_plain hgd fun K hK => ?_
  obtain ⟨hyl, ao, cap, rfl, hc⟩ := hy
  have key : ∃ v' w', (Builtin.append_ #[t, t] o.type #[v, .slice ao m cap]).run Try.prog w = .ok v' w' ∧ w'.ownsRow base e size v' (n + m) (xs ++ ys) ∧ w.grownBy w' v.ownBlock ∧ (v'.ownBlock = v.ownBlock ∨ v'.ownBlock = some w.heap.size) := by
    rcases hc with ⟨rfl, rfl, rfl⟩ | ⟨ad, rfl, hc⟩
    · have hy0 : ys = [] := List.length_eq_zero_iff.1 (by omega)
      subst hy0
      refine ⟨v, w, run_append_owned_none (P := Try.prog) (w := w) base t o.type e i size ht hi v _ _ hown, by simpa using hown, ⟨rfl, rfl, rfl, Nat.le_refl _, fun _ _ _ => rfl⟩, .inl rfl⟩
    · obtain ⟨v', w', k1, k2, k3, _, k5⟩ := run_append_own_at (P := Try.prog) w base t o.type e i z size bytes ht hi hz hsize hby hzs hsz v n xs hown ad m cap ys hyl hc h1 h63 hbytes hbase
      exact ⟨v', w', k1, k2, k3, k5⟩
  obtain ⟨v', w', hr, h2, h3, h4⟩ := key
  unfold Oper.wp execOp
  simp only [ho, resolve, invoke, builtin, Sem.run_bind, Sem.run_pure, Result.andThen_ok, List.map_toArray, List.map_cons, List.map_nil, hs, hx, hr]
  exact hK _ _ (h v' w' h2 h3 h4)
theorem rpcs_lo (a : Act) (dst : Option Tmp) (x y : Operand) (ty : TypeId) (pos : String) (after : Array Edge) (ao : Option Addr) (n cap k : Nat) (hx : a.eval x = .slice ao n cap) (hy : a.eval y = .int .i64 (k : Nat)) (hk : k ≤ cap) (w : World) :
    (execOp a.eval ⟨dst, .slice 27 x none (some y) none, ty, pos, after, none⟩).run Try.prog w = .ok (.value (.slice ao k cap)) w := by
  unfold execOp
  simp only [Option.map, hx, hy]
  simp [go_sem, Try.underlying27, hk]
theorem rpcs_hi (a : Act) (dst : Option Tmp) (x y : Operand) (ty : TypeId) (pos : String) (after : Array Edge) (ao : Option Addr) (n cap k : Nat) (hx : a.eval x = .slice ao n cap) (hy : a.eval y = .int .i64 (k : Nat)) (hk : k ≤ n) (w : World) :
    (execOp a.eval ⟨dst, .slice 27 x (some y) none none, ty, pos, after, none⟩).run Try.prog w = .ok (.value (.slice (hiA ao 11 cap k) (n - k) (cap - k))) w := by
  unfold execOp
  simp only [Option.map, hx, hy]
  have e : Try.prog.elem 27 = 33 := by kernel_rfl
  have h1 := run_slice_l (P := Try.prog) (w := w) 27 ao n cap (by rw [e]; exact Try.underlying27) .i64 (k : Nat) (by omega) (by omega)
  have h2 := run_sliceAt_slice (P := Try.prog) (w := w) 27 (.slice ao n cap) (some (.int .i64 (k : Nat))) none none (by rw [e]; exact Try.underlying27)
  have h3 : (sizeOf (Try.prog.elem 27)).run Try.prog w = .ok 11 w := by rw [e]; exact Try.sizeOf33 w
  rw [h1, h3] at h2
  simp only [Sem.run_bind, h2, Result.andThen, Sem.run_pure, sliced, Int.toNat_natCast]
  rfl
theorem ints_lo (a : Act) (dst : Option Tmp) (x y : Operand) (ty : TypeId) (pos : String) (after : Array Edge) (ao : Option Addr) (n cap k : Nat) (hx : a.eval x = .slice ao n cap) (hy : a.eval y = .int .i64 (k : Nat)) (hk : k ≤ cap) (w : World) :
    (execOp a.eval ⟨dst, .slice 28 x none (some y) none, ty, pos, after, none⟩).run Try.prog w = .ok (.value (.slice ao k cap)) w := by
  unfold execOp
  simp only [Option.map, hx, hy]
  simp [go_sem, Try.underlying28, hk]
theorem ints_hi (a : Act) (dst : Option Tmp) (x y : Operand) (ty : TypeId) (pos : String) (after : Array Edge) (ao : Option Addr) (n cap k : Nat) (hx : a.eval x = .slice ao n cap) (hy : a.eval y = .int .i64 (k : Nat)) (hk : k ≤ n) (w : World) :
    (execOp a.eval ⟨dst, .slice 28 x (some y) none none, ty, pos, after, none⟩).run Try.prog w = .ok (.value (.slice (hiA ao 1 cap k) (n - k) (cap - k))) w := by
  unfold execOp
  simp only [Option.map, hx, hy]
  have e : Try.prog.elem 28 = 3 := by kernel_rfl
  have h1 := run_slice_l (P := Try.prog) (w := w) 28 ao n cap (by rw [e]; exact Try.underlying28) .i64 (k : Nat) (by omega) (by omega)
  have h2 := run_sliceAt_slice (P := Try.prog) (w := w) 28 (.slice ao n cap) (some (.int .i64 (k : Nat))) none none (by rw [e]; exact Try.underlying28)
  have h3 : (sizeOf (Try.prog.elem 28)).run Try.prog w = .ok 1 w := by rw [e]; exact Try.sizeOf3 w
  rw [h1, h3] at h2
  simp only [Sem.run_bind, h2, Result.andThen, Sem.run_pure, sliced, Int.toNat_natCast]
  rfl
end Go.Proofs.Ytfgelagmjjjlgaa.Nt
