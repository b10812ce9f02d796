/- Proved here: a search in memory and what it has gathered; the contract of its take: the subscriptions of a node, in whatever order. Helper contracts. -/
import Derived.Test.YtdjpllmgjmnolaaGreatDoorZYDr
import Derived.Maps.AppendAt
import Derived.Sort.MapsRangeIn
namespace Go.Proofs.YtdjpllmgjmnolaaGreatDoor.Y
open Go.RowKit Go.Maps
set_option maxRecDepth 100000

theorem nodup_len {α : Type} : ∀ {l r : List α}, l.Nodup → (∀ x ∈ l, x ∈ r) → l.length ≤ r.length
  | [], r, _, _ => Nat.zero_le _
  | a :: l, r, hn, hs => by
    obtain ⟨s, t, rfl⟩ := List.append_of_mem (hs a (by simp))
    have hn' := List.nodup_cons.1 hn
    have := nodup_len (l := l) (r := s ++ t) hn'.2 (fun x hx => by
      have k := hs x (by simp [hx])
      simp only [List.mem_append, List.mem_cons] at k ⊢
      rcases k with k | k | k
      · exact .inl k
      · subst k; exact absurd hx hn'.1
      · exact .inr k)
    simp only [List.length_append, List.length_cons] at this ⊢
    omega
def rcs (r : Rw) : List Value := [.string r.c, .string r.s.f, .int .i64 r.s.q, .bool r.s.nl, .bool r.s.ap, .int .i64 r.s.h]
def hrow (H : List Rw) : List Value := H.flatMap rcs
theorem hrow_app (a b : List Rw) : hrow (a ++ b) = hrow a ++ hrow b := by unfold hrow; rw [List.flatMap_append]
theorem hrow_one (r : Rw) : hrow [r] = rcs r := by simp [hrow]
theorem infoHit : (Tryz.prog.info? 37).map (fun i => (i.zero, i.size, i.bytes)) = some (some (.agg #[.string ⟨#[]⟩, .string ⟨#[]⟩, .int .i64 0, .bool false, .bool false, .int .i64 0]), 6, 56) := by kernel_rfl
theorem six_cell (w : World) (a b c d e f : Value) (t : TypeId) : ∀ j u, [a, b, c, d, e, f][j]? = some u → (w.alloc (.cells #[a, b, c, d, e, f] t)).cell? ((⟨w.heap.size, 0, none⟩ : Addr).add j) = some u := by
  intro j u hj
  match j, hj with
  | 0, hj => simp at hj; subst hj; simp [Addr.add]
  | 1, hj => simp at hj; subst hj; simp [Addr.add]
  | 2, hj => simp at hj; subst hj; simp [Addr.add]
  | 3, hj => simp at hj; subst hj; simp [Addr.add]
  | 4, hj => simp at hj; subst hj; simp [Addr.add]
  | 5, hj => simp at hj; subst hj; simp [Addr.add]
theorem six_one (r : Rw) : ∀ u ∈ rcs r, u.oneCell' = true := by
  intro u hu; simp [rcs] at hu; rcases hu with rfl | rfl | rfl | rfl | rfl | rfl <;> rfl
theorem step_app {w w' : World} {ops : Array Oper} {o : Oper} {a : Act} {K : Act → World → Prop} {Q : Exit → Act → World → Prop} {E : Prop} (hgd : o.guard = none) (s x : Operand) (t : TypeId)
    (ho : o.op = .call { callee := .builtin .append, args := #[s, x], argTypes := #[t, t] }) (v vx v' : Value) (ty : TypeId) (hs : a.eval s = v) (hx : a.eval x = vx) (hr : Sem.run Tryz.prog (Builtin.append_ #[t, t] ty #[v, vx]) w = .ok v' w') (h : K (a.put o.dst v') w') (hty : o.type = ty := by rfl) :
    if Region.wanted o (yielded ops a.tmps) = true then Oper.wp Tryz.prog o a w K Q else E := by
  have hw : Region.wanted o (yielded ops a.tmps) = true := by simp [Region.wanted, hgd]
  rw [if_pos hw]
  subst hty
  unfold Oper.wp execOp
  simp only [ho, resolve, invoke, builtin, Sem.run_bind, Sem.run_pure, Result.andThen_ok, List.map_toArray, List.map_cons, List.map_nil, hs, hx, hr]
  exact h
theorem own_slice {w : World} {B : Nat} {e : TypeId} {k : Nat} {v : Value} {n : Nat} {xs : List Value} (h : w.ownsRow B e k v n xs) : ∃ ao m c, v = .slice ao m c := by
  rcases h.2 with ⟨e, _⟩ | ⟨g, cap, cur, e, _⟩
  · exact ⟨_, _, _, e⟩
  · exact ⟨_, _, _, e⟩
/-- a search at block Z, and what it has gathered -/
def SI (w : World) (Z : Nat) (nv : Value) (H : List Rw) : Prop := ∃ hv, w.heap[Z]? = some (.cells #[nv, hv] 74 (0, 0)) ∧ w.ownsRow (Z + 1) 37 6 hv H.length (hrow H)
theorem SI.keep {w w' : World} {Z : Nat} {nv : Value} {H : List Rw} (h : SI w Z nv H) (hb : ∀ k, Z ≤ k → k < w.heap.size → (∀ es c, w.heap[k]? ≠ some (.map es c)) → (∀ a b c d, w.heap[k]? ≠ some (.mapIter a b c d)) → w'.heap[k]? = w.heap[k]?) : SI w' Z nv H := by
  obtain ⟨hv, h1, h2⟩ := h
  refine ⟨hv, ?_, h2.1, ?_⟩
  · rw [hb Z (Nat.le_refl _) (Array.getElem?_eq_some_iff.1 h1).1 (by rw [h1]; intro _ _ e; cases e) (by rw [h1]; intro _ _ _ _ e; cases e)]; exact h1
  · rcases h2.2 with h3 | ⟨g, cap, cur, hv', hB, hg, rest⟩
    · exact .inl h3
    · exact .inr ⟨g, cap, cur, hv', hB, by rw [hb g (by omega) (Array.getElem?_eq_some_iff.1 hg).1 (by rw [hg]; intro _ _ e; cases e) (by rw [hg]; intro _ _ _ _ e; cases e)]; exact hg, rest⟩
theorem SI.below {w w' : World} {Z : Nat} {nv : Value} {H : List Rw} (h : SI w Z nv H) (hb : Below w.heap.size w w') : SI w' Z nv H := h.keep (fun k _ hk _ _ => hb.block k hk)
theorem SI.lt {w : World} {Z : Nat} {nv : Value} {H : List Rw} (h : SI w Z nv H) : Z < w.heap.size := by
  obtain ⟨hv, h1, _⟩ := h
  exact (Array.getElem?_eq_some_iff.1 h1).1
/-- one more is gathered -/
theorem SI.push {w w' : World} {Z : Nat} {nv hv hv' : Value} {H : List Rw} {r : Rw} (h1 : w.heap[Z]? = some (.cells #[nv, hv] 74 (0, 0))) (hb : ∀ g, hv.ownBlock = some g → Z + 1 ≤ g) (hg : w.grownBy w' hv.ownBlock) (ho : w'.ownsRow (Z + 1) 37 6 hv' (H.length + 1) (hrow H ++ rcs r)) : SI (w'.setCell ⟨Z, 1, none⟩ hv') Z nv (H ++ [r]) ∧ Fr (fun k => k = Z ∨ hv.ownBlock = some k) w (w'.setCell ⟨Z, 1, none⟩ hv') := by
  have hlt := (Array.getElem?_eq_some_iff.1 h1).1
  have h1' : w'.heap[Z]? = some (.cells #[nv, hv] 74 (0, 0)) := by rw [hg.block Z hlt (fun e => by have := hb Z e.symm; omega)]; exact h1
  refine ⟨⟨hv', ?_, ?_⟩, (Fr.of_grown (F := fun k => k = Z ∨ hv.ownBlock = some k) hg (fun g e => .inr e)).trans (set_fr (.inl rfl))⟩
  · have k := set_heap h1' 1 hv' (by simp)
    rw [k]
    rfl
  · rw [hrow_app, hrow_one, List.length_append]
    refine ⟨ho.1, ?_⟩
    rcases ho.2 with h3 | ⟨g, cap, cur, e, hB, hgg, rest⟩
    · exact .inl h3
    · refine .inr ⟨g, cap, cur, e, hB, ?_, rest⟩
      have : Z ≠ g := by omega
      simp only [World.setCell, Array.getElem?_modify, this, if_false]
      exact hgg
/-- what has been gathered of a map whose entries in 'left' are still to come -/
def Coll (S : Rw → Prop) (p : Path) (left : Lit → Bool) (C : List Rw) : Prop := C.Nodup ∧ ∀ x, x ∈ C ↔ S x ∧ lv x.s.f = p ∧ left (kk x.c x.s.f) = false
theorem coll_step {S : Rw → Prop} {p : Path} {D : DataW Unit} {left : Lit → Bool} {C : List Rw} {c f : ByteArray} {s : Sb} (h2 : ∀ x, S x → lv x.s.f = p → Maps.has D (kk x.c x.s.f) = true ∧ ∀ z, D.atKey (kk x.c x.s.f) z = sD x.s) (h3 : ∀ c f, c.size ≤ maxLen → f.size ≤ maxLen → Maps.has D (kk c f) = true → ∃ x, S x ∧ x.c = c ∧ x.s.f = f ∧ lv f = p)
    (hok : ∀ x, S x → RwOk x) (hc : c.size ≤ maxLen) (hf : f.size ≤ maxLen) (hl : left (kk c f) = true) (hat : ∀ z, D.atKey (kk c f) z = sD s) (h : Coll S p left C) : S ⟨c, s⟩ ∧ lv s.f = p ∧ (⟨c, s⟩ : Rw) ∉ C ∧ Coll S p (fun z => left z && !z.sameKey (kk c f)) (C ++ [⟨c, s⟩]) := by
  obtain ⟨x, hx, rfl, rfl, hp⟩ := h3 c f hc hf (has_true_of_atKey hat)
  have e := (h2 x hx hp).2 .nil
  rw [hat] at e
  have es : s = x.s := sD_inj e
  have ex : (⟨x.c, s⟩ : Rw) = x := by rw [es]
  rw [ex, es]
  have hnc : x ∉ C := fun hm => by have := ((h.2 x).1 hm).2.2; rw [hl] at this; cases this
  refine ⟨hx, hp, hnc, List.nodup_append.2 ⟨h.1, by simp, fun a ha b hb e => hnc (by simp at hb; rw [← hb, ← e]; exact ha)⟩, fun y => ?_⟩
  simp only [List.mem_append, List.mem_singleton, h.2 y]
  constructor
  · rintro (⟨h1, h4, h5⟩ | rfl)
    · exact ⟨h1, h4, by rw [h5]; rfl⟩
    · exact ⟨hx, hp, by rw [WideAt.sameKey_self (show WideAt.IsKeyLit (kk _ _) from trivial)]; simp⟩
  · rintro ⟨h1, h4, h5⟩
    by_cases hk : left (kk y.c y.s.f) = false
    · exact .inl ⟨h1, h4, hk⟩
    · right
      have hs : (kk y.c y.s.f).sameKey (kk x.c x.s.f) = true := by
        cases hq : left (kk y.c y.s.f)
        · exact absurd hq hk
        · rw [hq] at h5; simpa using h5
      have hkk := WideAt.sameKey_eq hs
      have e2 := (h2 y h1 h4).2 .nil
      rw [hkk, hat] at e2
      obtain ⟨e3, _⟩ := kk_inj (hok y h1).c (hok y h1).f hc hf hkk
      obtain ⟨yc, ys⟩ := y
      obtain ⟨xc, xs⟩ := x
      simp only at e3 es e2
      rw [e3, ← sD_inj e2, es]
theorem agg2_inv {key : Value} {kl : Lit} (h : keyOf Tryz.prog 66 key = some kl) : ∃ x : ByteArray × ByteArray, key = .agg #[.string x.1, .string x.2] := by
  obtain ⟨c, f, e, _⟩ := own_inv h
  exact ⟨(c, f), e⟩
theorem sval_inv {v : Value} {y : DataW Unit × List MemPlace} (h : sel v = some y) : ∃ s : Sb, v = .agg #[.string s.f, .int .i64 s.q, .bool s.nl, .bool s.ap, .int .i64 s.h] := by
  obtain ⟨s, e, _⟩ := sel_inv h
  exact ⟨s, e⟩
/-- what take, visit and follow leave -/
def Got (w : World) (Z : Nat) (nv : Value) (H : List Rw) (P : Rw → Prop) (e : Ending) (w' : World) : Prop := e = .returned (.tuple #[]) ∧ Hid (∃ C, SI w' Z nv (H ++ C) ∧ C.Nodup ∧ (∀ x, x ∈ C ↔ P x) ∧ Below Z w w')
theorem below_fr {Z : Nat} {a b c : World} {F : Nat → Prop} (h : Below Z a b) (k : Fr F b c) (hF : ∀ i, F i → Z ≤ i) (hz : Z ≤ b.heap.size) : Below Z a c := ⟨k.os.trans h.os, k.tape.trans h.tape, k.output.trans h.output, Nat.le_trans h.size k.size, fun i hi => (k.block i (by omega) (fun e => by have := hF i e; omega)).trans (h.block i hi)⟩
set_option maxHeartbeats 1000000 in
theorem take_none {w : World} {Z : Nat} {nv : Value} {H : List Rw} {d : Nat} {P : Rw → Prop} (c1 : w.cell? ⟨d, 1, none⟩ = some (.map none)) (hs : SI w Z nv H) (hP : ∀ x, ¬ P x) : Calls Tryz.prog 49 #[.pointer (some ⟨Z, 0, none⟩), .pointer (some ⟨d, 0, none⟩)] w (Got w Z nv H P) := by
  have hrg := run_range_nilMap (P := Tryz.prog) w 55 66 28 Tryz.underlying55
  have hnx : ∀ ty, (Instr.next (.pointer (some ⟨w.heap.size, 0, none⟩)) false ty).run Tryz.prog (w.alloc (.mapIter none 0 #[] 0)) = _ := fun ty => run_next_nilMap w ty 0 0 #[]
  have HS := hide hs
  have HP := hide hP
  clear hs hP
  go_enter Tryz.func49, Tryz.ntmps49
  go_wp2
  refine wp_loop_rounds 1 ?_
  rw [rounds_succ]
  go_wp2
  go_end0
  refine ⟨rfl, [], ?_, List.nodup_nil, fun x => ⟨fun e => (by cases e), fun e => absurd e ((unhide HP) x)⟩, (Below.refl _ _).alloc (Nat.le_of_lt (unhide HS).lt) _⟩
  rw [List.append_nil]
  exact (unhide HS).below ((Below.refl _ _).alloc (Nat.le_refl _) _)
set_option maxHeartbeats 8000000 in
theorem take_some {w : World} {T : Nat} {S : Rw → Prop} {n : Int} {F : Nat → Prop} {M : Nat} {G : Gr} {p : Path} {a : Nod} {Z : Nat} {nv : Value} {H R : List Rw} (h : TG w T S n F M G) (hp : G p = some a) {b : Nat} (hsm : a.sm = some b) (hF : ∀ k, F k → k < Z) (hs : SI w Z nv H) (hH : H.Nodup) (hHp : ∀ x ∈ H, S x ∧ lv x.s.f ≠ p) (hR : ∀ x, S x → x ∈ R) (hK : R.length ≤ 1000000) :
    Calls Tryz.prog 49 #[.pointer (some ⟨Z, 0, none⟩), .pointer (some ⟨a.blk, 0, none⟩)] w (Got w Z nv H (fun x => S x ∧ lv x.s.f = p)) := by
  obtain ⟨i0, hi, hz0, hz1, hz2⟩ := info_parts infoHit
  obtain ⟨_, c1, _, _, _⟩ := h.nod hp
  obtain ⟨D, hD, h2, h3⟩ := h.sub p a hp
  rw [hsm] at hD c1
  have hown : w.ownsMap Tryz.prog 66 sel b M D := hD
  have hbZ : b < Z := hF b (h.foot p a hp b (mem_sm hsm))
  have hZ := hs.lt
  generalize a.blk = d at c1 ⊢
  have HST : Hid (Coll S p (Maps.has D) []) := ⟨List.nodup_nil, fun x => ⟨(fun e => by cases e), fun e => by have := (h2 x e.1 e.2.1).1; rw [e.2.2] at this; cases this⟩⟩
  have HSTEP : Hid (∀ (left : Lit → Bool) (C : List Rw) (c f : ByteArray) (s : Sb), c.size ≤ maxLen → f.size ≤ maxLen → left (kk c f) = true → (∀ z, D.atKey (kk c f) z = sD s) → Coll S p left C → Coll S p (fun z => left z && !z.sameKey (kk c f)) (C ++ [⟨c, s⟩]) ∧ H.length + C.length < 1000000) := fun left C c f s hc hf hl hat hC => by
    obtain ⟨k1, k2, k3, k4⟩ := coll_step h2 h3 (fun x hx => (h.row x hx).1) hc hf hl hat hC
    refine ⟨k4, ?_⟩
    have hnd : (H ++ (C ++ [(⟨c, s⟩ : Rw)])).Nodup := List.nodup_append.2 ⟨hH, k4.1, fun x hx y hy e => by
      have := (k4.2 y).1 hy
      rw [← e] at this
      exact (hHp x hx).2 this.2.1⟩
    have := nodup_len hnd (fun x hx => by
      rcases List.mem_append.1 hx with hx | hx
      · exact hR x (hHp x hx).1
      · exact hR x ((k4.2 x).1 hx).1)
    simp only [List.length_append, List.length_cons, List.length_nil] at this
    omega
  have HEND : Hid (∀ (left : Lit → Bool) (C : List Rw), (∀ kl, left kl = false) → Coll S p left C → C.Nodup ∧ ∀ x, x ∈ C ↔ S x ∧ lv x.s.f = p) := fun left C hl hC => ⟨hC.1, fun x => by rw [hC.2 x, hl]; simp⟩
  have HS := hide hs
  clear h hp hsm hD h2 h3 hF hs hH hHp hR hK
  go_enter Tryz.func49, Tryz.ntmps49
  go_wp2_with (first
    | (at_range; refine wpList_range_own _ rfl _ 55 rfl 66 28 K_own Tryz.underlying55 sel b M D rfl hown ?_; intro w0 hrg0 hg0 hs0)
    | go_in)
  go_frame
  have HS0 : Hid (SI w0 Z nv H) := (unhide HS).keep (fun k _ hk _ _ => hg0.block k hk (by simp))
  have HB0 : Hid (Below Z w w0) := (Fr.of_grown (F := fun _ => False) hg0 (by simp)).below (by simp) (Nat.le_of_lt hZ)
  obtain ⟨r, hr⟩ : ∃ r, r = w.heap.size := ⟨_, rfl⟩
  rw [← hr] at hrg0 ⊢
  have hrZ : Z < r := by omega
  clear hr hg0 hs0 hown c1 HS
  go_loopw [11] (fun _ wr => ∃ (left : Lit → Bool) (cnt : Nat) (C : List Rw), wr.ranges Tryz.prog 66 sel b r M D left cnt ∧ Hid (SI wr Z nv (H ++ C)) ∧ Hid (Coll S p left C) ∧ Hid (Below Z w wr)) (fun _ wr => wr.rangeLeft b r)
  case atStart => exact ⟨_, _, [], hrg0, by rw [List.append_nil]; exact HS0, HST, HB0⟩
  case round =>
    clear hrg0 HS0 HB0 HST
    obtain ⟨left, cnt, C, hrg, HSI, HCO, HBE⟩ := hrel
    go_wp2_with (first
      | (at_next; refine wpList_next_ranges (α := ByteArray × ByteArray) (β := Sb) _ rfl _ rfl 66 K_own sel (fun x => .agg #[.string x.1, .string x.2]) (fun s => .agg #[.string s.f, .int .i64 s.q, .bool s.nl, .bool s.ap, .int .i64 s.h]) (fun _ _ hk => agg2_inv hk) (fun _ _ hv => sval_inv hv) b r M D left cnt rfl hrg ?_ ?_)
      | go_in)
    · intro _ hl0
      have HE := hide ((unhide HEND) left C hl0 (unhide HCO))
      go_wp2
      go_end0
      exact ⟨rfl, C, unhide HSI, (unhide HE).1, (unhide HE).2, unhide HBE⟩
    · intro c f s kl yd yp w1 cnt1 hkey hlk hv hat hrg1 hlt hg1 hs1 hen
      obtain ⟨c', f', e1, hcz, hfz, e2⟩ := own_inv hkey
      simp only [Value.agg.injEq, Array.mk.injEq, List.cons.injEq, Value.string.injEq, and_true] at e1
      obtain ⟨rfl, rfl⟩ := e1
      subst e2
      have eyd : yd = sD s := by
        have k := hv
        change sel (sval s) = some (yd, yp) at k
        rw [sel_val] at k
        exact (congrArg Prod.fst (Option.some.inj k)).symm
      have HSTP := hide ((unhide HSTEP) left C c f s hcz hfz hlk (fun z => by rw [hat z, eyd]) (unhide HCO))
      have hrn := hrg.lt
      have HSI1 : Hid (SI w1 Z nv (H ++ C)) := (unhide HSI).keep (fun k _ hk _ hni => hg1.block k hk (fun e => by
        obtain ⟨_, _, _, _, _, _, _, _, _, hit, _⟩ := hrg
        have e' : k = r := Option.some.inj e
        exact hni _ _ _ _ (by rw [e']; exact hit)))
      have HBE1 : Hid (Below Z w w1) := below_fr (unhide HBE) (Fr.of_grown (F := fun k => k = r) hg1 (fun g e => (Option.some.inj e).symm)) (fun i e => by omega) (by omega)
      have hs2 : Hid (w1.heap.size = wr.heap.size) := hs1
      have HRG := hide hrg
      have HRG1 := hide hrg1
      clear hg1 hs1 hlk hv hat eyd hkey HCO HSI hcz hfz HBE hrg1
      go_wp2_with fail
      have HBV : Hid (Below w1.heap.size w1 ((w1.alloc (.cells #[.string c, .string f] 66)).alloc (.cells #[.string s.f, .int .i64 s.q, .bool s.nl, .bool s.ap, .int .i64 s.h] 28))) := ((Below.refl _ _).alloc (Nat.le_refl _) _).alloc (by simp) _
      have HX : Hid (((w1.alloc (.cells #[.string c, .string f] 66)).alloc (.cells #[.string s.f, .int .i64 s.q, .bool s.nl, .bool s.ap, .int .i64 s.h] 28)).cell? ⟨w1.heap.size, 0, none⟩ = some (.string c) ∧ ((w1.alloc (.cells #[.string c, .string f] 66)).alloc (.cells #[.string s.f, .int .i64 s.q, .bool s.nl, .bool s.ap, .int .i64 s.h] 28)).cell? ⟨w1.heap.size + 1, 0, none⟩ = some (.string s.f) ∧ ((w1.alloc (.cells #[.string c, .string f] 66)).alloc (.cells #[.string s.f, .int .i64 s.q, .bool s.nl, .bool s.ap, .int .i64 s.h] 28)).cell? ⟨w1.heap.size + 1, 1, none⟩ = some (.int .i64 s.q) ∧ ((w1.alloc (.cells #[.string c, .string f] 66)).alloc (.cells #[.string s.f, .int .i64 s.q, .bool s.nl, .bool s.ap, .int .i64 s.h] 28)).cell? ⟨w1.heap.size + 1, 2, none⟩ = some (.bool s.nl) ∧ ((w1.alloc (.cells #[.string c, .string f] 66)).alloc (.cells #[.string s.f, .int .i64 s.q, .bool s.nl, .bool s.ap, .int .i64 s.h] 28)).cell? ⟨w1.heap.size + 1, 3, none⟩ = some (.bool s.ap) ∧ ((w1.alloc (.cells #[.string c, .string f] 66)).alloc (.cells #[.string s.f, .int .i64 s.q, .bool s.nl, .bool s.ap, .int .i64 s.h] 28)).cell? ⟨w1.heap.size + 1, 4, none⟩ = some (.int .i64 s.h)) := by
        refine ⟨?_, ?_, ?_, ?_, ?_, ?_⟩ <;> simp
      have HVZ : Hid (((w1.alloc (.cells #[.string c, .string f] 66)).alloc (.cells #[.string s.f, .int .i64 s.q, .bool s.nl, .bool s.ap, .int .i64 s.h] 28)).heap.size = w1.heap.size + 1 + 1) := by show _ = _; simp
      generalize ((w1.alloc (.cells #[.string c, .string f] 66)).alloc (.cells #[.string s.f, .int .i64 s.q, .bool s.nl, .bool s.ap, .int .i64 s.h] 28)) = wv at HBV HX HVZ ⊢
      obtain ⟨hv, hz, hrw⟩ := unhide HSI1
      have HVB : Hid (∀ g, hv.ownBlock = some g → Z + 1 ≤ g ∧ g < w1.heap.size ∧ g ≠ r) := fun g hg => by
        rcases hrw.2 with ⟨e, _⟩ | ⟨g', cap, cur, e, hB, hgg, _⟩
        · rw [e] at hg; cases hg
        · rw [e] at hg
          have e' : g' = g := Option.some.inj hg
          subst e'
          obtain ⟨_, _, _, _, _, _, _, _, _, hit, _⟩ := unhide HRG1
          exact ⟨hB, (Array.getElem?_eq_some_iff.1 hgg).1, fun e2 => by rw [e2, hit] at hgg; cases hgg⟩
      have hZ1 := (Array.getElem?_eq_some_iff.1 hz).1
      have HROW : Hid (wv.ownsRow (Z + 1) 37 6 hv (H ++ C).length (hrow (H ++ C))) := owns_below hrw (unhide HBV)
      have HHZ : Hid (wv.heap[Z]? = some (.cells #[nv, hv] 74 (0, 0))) := by show _ = _; rw [(unhide HBV).block Z hZ1]; exact hz
      have hcz : Hid (∀ W : World, W.heap[Z]? = some (.cells #[nv, hv] 74 (0, 0)) → W.cell? ⟨Z, 1, none⟩ = some hv ∧ W.frozen? ⟨Z, 1, none⟩ = false) := fun W hW => ⟨by rw [cell_of hW]; rfl, frozen_of hW 1⟩
      have hlen : (H ++ C).length < 1000000 := by rw [List.length_append]; exact (unhide HSTP).2
      -- the append, in a world that is wv and the new block
      have HAPP : Hid (∀ wB : World, Below wv.heap.size (wv.alloc (.cells #[.string c, .string s.f, .int .i64 s.q, .bool s.nl, .bool s.ap, .int .i64 s.h] 37)) wB → wB.heap.size = wv.heap.size + 1 → (∀ k, wB.heap[k]? = (wv.alloc (.cells #[.string c, .string s.f, .int .i64 s.q, .bool s.nl, .bool s.ap, .int .i64 s.h] 37)).heap[k]?) → ∃ v' w2, Sem.run Tryz.prog (Builtin.append_ #[26, 26] 26 #[hv, .slice (some ⟨wv.heap.size, 0, none⟩) 1 1]) wB = .ok v' w2 ∧ (∃ ao' n' c', v' = .slice ao' n' c') ∧ w2.heap[Z]? = some (.cells #[nv, hv] 74 (0, 0)) ∧ w2.cell? ⟨w1.heap.size, 0, none⟩ = some (.string c) ∧ w2.cell? ⟨w1.heap.size + 1, 0, none⟩ = some (.string s.f) ∧ w2.cell? ⟨w1.heap.size + 1, 1, none⟩ = some (.int .i64 s.q) ∧ w2.cell? ⟨w1.heap.size + 1, 2, none⟩ = some (.bool s.nl) ∧ w2.cell? ⟨w1.heap.size + 1, 3, none⟩ = some (.bool s.ap) ∧ w2.cell? ⟨w1.heap.size + 1, 4, none⟩ = some (.int .i64 s.h) ∧ SI (w2.setCell ⟨Z, 1, none⟩ v') Z nv (H ++ C ++ [⟨c, s⟩]) ∧ Fr (fun k => k = Z ∨ hv.ownBlock = some k) wv (w2.setCell ⟨Z, 1, none⟩ v')) := fun wB hB hBs hBe => by
        have hfrB : Fr (fun _ => False) wv wB := ⟨hB.os, hB.tape, hB.output, by omega, fun k hk _ => by rw [hBe k, Below.heap_alloc _ _ k hk]⟩
        have hrB : wB.ownsRow (Z + 1) 37 6 hv (H ++ C).length (hrow (H ++ C)) := owns_below (unhide HROW) (hfrB.below (B := wv.heap.size) (fun k e => e.elim) (Nat.le_refl _))
        have hzB : wB.heap[Z]? = some (.cells #[nv, hv] 74 (0, 0)) := by rw [hfrB.block Z (Array.getElem?_eq_some_iff.1 (unhide HHZ)).1 (fun e => e)]; exact unhide HHZ
        have hnews : ∀ j u, (rcs ⟨c, s⟩)[j]? = some u → wB.cell? ((⟨wv.heap.size, 0, none⟩ : Addr).add j) = some u := fun j u hj => by
          have k := six_cell wv (.string c) (.string s.f) (.int .i64 s.q) (.bool s.nl) (.bool s.ap) (.int .i64 s.h) 37 j u hj
          rw [← k]
          simp only [World.cell?, Addr.add, hBe]
        obtain ⟨v', w2, hrun, ho2, hg2, _, _⟩ := run_append_own_at (P := Tryz.prog) wB (Z + 1) 26 26 37 i0 _ 6 56 Tryz.underlying26 hi hz0 hz1 hz2 rfl (by decide) hv (H ++ C).length (hrow (H ++ C)) hrB ⟨wv.heap.size, 0, none⟩ 1 1 (rcs ⟨c, s⟩) rfl hnews (six_one _) (by unfold maxLen; omega) (by omega) (by have := (unhide HBV).size; omega)
        have hsep : ∀ k, k < wB.heap.size → (∀ g, hv.ownBlock = some g → g ≠ k) → w2.heap[k]? = wB.heap[k]? := fun k hk hn => hg2.block k hk (fun e => hn k e.symm rfl)
        obtain ⟨x0, y0, y1, y2, y3, y4⟩ := unhide HX
        have hXs : w1.heap.size + 1 < wv.heap.size := by have := unhide HVZ; omega
        have cX : ∀ j v, wv.cell? ⟨w1.heap.size, j, none⟩ = some v → w2.cell? ⟨w1.heap.size, j, none⟩ = some v := fun j v hv' => by
          rw [← hv']; simp only [World.cell?]; rw [hsep _ (by omega) (fun g hg => by have := (unhide HVB) g hg; omega), hfrB.block _ (by omega) (fun e => e)]
        have cY : ∀ j v, wv.cell? ⟨w1.heap.size + 1, j, none⟩ = some v → w2.cell? ⟨w1.heap.size + 1, j, none⟩ = some v := fun j v hv' => by
          rw [← hv']; simp only [World.cell?]; rw [hsep _ (by omega) (fun g hg => by have := (unhide HVB) g hg; omega), hfrB.block _ (by omega) (fun e => e)]
        obtain ⟨k1, k2⟩ := SI.push (r := ⟨c, s⟩) hzB (fun g hg => ((unhide HVB) g hg).1) hg2 ho2
        exact ⟨v', w2, hrun, own_slice ho2, by rw [hsep Z (by omega) (fun g hg => by have := (unhide HVB) g hg; omega)]; exact hzB, cX 0 _ x0, cY 0 _ y0, cY 1 _ y1, cY 2 _ y2, cY 3 _ y3, cY 4 _ y4, k1, (hfrB.mono (fun k _ e => e.elim)).trans k2⟩
      have HDONE : Hid (∀ w3, SI w3 Z nv (H ++ C ++ [⟨c, s⟩]) → Fr (fun k => k = Z ∨ hv.ownBlock = some k) wv w3 → ∃ cnt2, w3.ranges Tryz.prog 66 sel b r M D (fun z => left z && !z.sameKey (kk c f)) cnt2 ∧ cnt2 = cnt1 ∧ Below Z w w3) := fun w3 _ hfr3 => by
        have hfr13 : Fr (fun k => k = Z ∨ hv.ownBlock = some k) w1 w3 := (Fr.of_below (unhide HBV)).trans hfr3
        have hbk : ∀ k, k < w1.heap.size → k ≠ Z → (∀ g, hv.ownBlock = some g → g ≠ k) → w3.heap[k]? = w1.heap[k]? := fun k hk h1 h2 => hfr13.block k hk (fun e => by rcases e with e | e; exact h1 e; exact h2 k e rfl)
        refine ⟨cnt1, ?_, rfl, below_fr (unhide HBE1) hfr13 (fun i e => by rcases e with e | e; omega; have := (unhide HVB) i e; omega) (by omega)⟩
        obtain ⟨es, clock, since, seen, c0, q1, q2, q3, q4, q5, rest⟩ := unhide HRG1
        refine ⟨es, clock, since, seen, c0, ?_, q2, q3, q4, ?_, rest⟩
        · rw [hbk b (Array.getElem?_eq_some_iff.1 q1).1 (by omega) (fun g hg => by have := (unhide HVB) g hg; omega)]; exact q1
        · rw [hbk r (Array.getElem?_eq_some_iff.1 q5).1 (by omega) (fun g hg => ((unhide HVB) g hg).2.2)]; exact q5
      have HLEFT := hide (unhide HRG).left_eq
      clear hz hrw HROW HBV HSI1 HRG1 HVB hen
      refine wp_region_noPanic ?_
      refine wp_region_held_drew (S := fun W => W.cell? ⟨w1.heap.size, 0, none⟩ = some (.string c) ∧ W.cell? ⟨w1.heap.size + 1, 0, none⟩ = some (.string s.f) ∧ W.cell? ⟨w1.heap.size + 1, 1, none⟩ = some (.int .i64 s.q) ∧ W.cell? ⟨w1.heap.size + 1, 2, none⟩ = some (.bool s.nl) ∧ W.cell? ⟨w1.heap.size + 1, 3, none⟩ = some (.bool s.ap) ∧ W.cell? ⟨w1.heap.size + 1, 4, none⟩ = some (.int .i64 s.h)) (by kernel_rfl) (unhide HX) (fun hHeld => ?_)
      refine rtk 0 (h := ?_)
      refine rtk 1 (h := ?_)
      refine rtk 2 (h := ?_)
      refine rtk 3 (h := ?_)
      refine rtk 5 (h := ?_)
      refine rtk 6 (h := ?_)
      refine rtk 7 (h := ?_)
      refine rtk 8 (h := ?_)
      have HXB : Hid (∀ o, (wv.alloc o).cell? ⟨w1.heap.size, 0, none⟩ = some (.string c) ∧ (wv.alloc o).cell? ⟨w1.heap.size + 1, 0, none⟩ = some (.string s.f) ∧ (wv.alloc o).cell? ⟨w1.heap.size + 1, 1, none⟩ = some (.int .i64 s.q) ∧ (wv.alloc o).cell? ⟨w1.heap.size + 1, 2, none⟩ = some (.bool s.nl) ∧ (wv.alloc o).cell? ⟨w1.heap.size + 1, 3, none⟩ = some (.bool s.ap) ∧ (wv.alloc o).cell? ⟨w1.heap.size + 1, 4, none⟩ = some (.int .i64 s.h)) := fun o => by
        obtain ⟨x0, y0, y1, y2, y3, y4⟩ := unhide HX
        exact ⟨Lib.cell?_alloc_some _ x0, Lib.cell?_alloc_some _ y0, Lib.cell?_alloc_some _ y1, Lib.cell?_alloc_some _ y2, Lib.cell?_alloc_some _ y3, Lib.cell?_alloc_some _ y4⟩
      have hc4 : wv.drew.cell? ⟨Z, 1, none⟩ = some hv := ((unhide hcz) wv (unhide HHZ)).1
      refine wpAnyH_ready (rs := [4, 9]) (by kernel_rfl) (by simp) (rac (h := fun K hK => ?_) (hs := rac (h := fun K hK => ?_) (hs := AllReadyH.nil)))
      · go_simp
        refine hK.out _ _ (unhide HX) (fun hHeld => ?_)
        clear hK K
        refine rcl 9 (h := fun K hK => ?_)
        go_simp
        refine hK.out _ _ ((unhide HXB) _) (fun hHeld => ?_)
        clear hK K
        obtain ⟨_, w2, hrun, ⟨ao', n', c', rfl⟩, hzw, e0, e1, e2, e3, e4, e5, hsi, hfr⟩ := (unhide HAPP) (wv.alloc (.cells #[.string c, .string s.f, .int .i64 s.q, .bool s.nl, .bool s.ap, .int .i64 s.h] 37)).drew (below_drewN (Below.refl _ _) 1) (by simp) (fun _ => rfl)
        have hcc := ((unhide hcz) w2 hzw).1
        have hff := ((unhide hcz) w2 hzw).2
        have HSI3 := hide hsi
        have HFR3 := hide hfr
        clear hsi hfr
        refine rcl 10 (h := fun K hK => ?_)
        refine step_app (by rfl) _ _ _ (by rfl) _ _ _ _ (by rfl) (by rfl) hrun ?_
        simp only [Act.put, List.setIfInBounds_toArray, List.set_cons_zero, List.set_cons_succ]
        refine hK.out _ _ ⟨e0, e1, e2, e3, e4, e5⟩ (fun hHeld => ?_)
        clear hK K
        refine rtk 11 (h := ?_)
        refine rtk 12 (h := ?_)
        refine rcl 13 (h := fun K hK => ?_)
        go_simp
        have hsf : Fr (fun k => k = Z) w2 (w2.setCell ⟨Z, 1, none⟩ (.slice ao' n' c')) := set_fr rfl
        refine hK.out _ _ ⟨hsf.cell (by omega) e0, hsf.cell (by omega) e1, hsf.cell (by omega) e2, hsf.cell (by omega) e3, hsf.cell (by omega) e4, hsf.cell (by omega) e5⟩ (fun hHeld => ?_)
        clear hK K
        refine wpAnyH_done (by kernel_rfl) ?_ _
        refine NoPanic.normal ?_
        obtain ⟨cnt2, hrg3, hc2, hbe3⟩ := (unhide HDONE) _ (unhide HSI3) (unhide HFR3)
        have HBE3 := hide hbe3
        have hc2' := hide hc2
        generalize w2.setCell ⟨Z, 1, none⟩ (.slice ao' n' c') = w3 at hrg3 HSI3 HBE3 ⊢
        clear hcc hff hzw e0 e1 e2 e3 e4 e5 hbe3 HFR3 hsf HHZ hcz HAPP HDONE hc2 hrun
        go_wp2
        go_roundw
        case rel => exact ⟨_, cnt2, C ++ [(⟨c, s⟩ : Rw)], hrg3, by rw [← List.append_assoc]; exact HSI3, hide (unhide HSTP).1, HBE3⟩
        case measure => rw [hrg3.left_eq, unhide HLEFT, unhide hc2']; exact hlt
      · go_simp
        refine hK.out _ _ ((unhide HXB) _) (fun hHeld => ?_)
        clear hK K
        have hc4' : (wv.alloc (.cells #[.string c, .string s.f, .int .i64 s.q, .bool s.nl, .bool s.ap, .int .i64 s.h] 37)).drew.cell? ⟨Z, 1, none⟩ = some hv := Lib.cell?_alloc_some _ ((unhide hcz) wv (unhide HHZ)).1
        refine rcl 4 (h := fun K hK => ?_)
        go_simp
        refine hK.out _ _ ((unhide HXB) _) (fun hHeld => ?_)
        clear hK K
        obtain ⟨_, w2, hrun, ⟨ao', n', c', rfl⟩, hzw, e0, e1, e2, e3, e4, e5, hsi, hfr⟩ := (unhide HAPP) (wv.alloc (.cells #[.string c, .string s.f, .int .i64 s.q, .bool s.nl, .bool s.ap, .int .i64 s.h] 37)).drew (below_drewN (Below.refl _ _) 1) (by simp) (fun _ => rfl)
        have hcc := ((unhide hcz) w2 hzw).1
        have hff := ((unhide hcz) w2 hzw).2
        have HSI3 := hide hsi
        have HFR3 := hide hfr
        clear hsi hfr
        refine rcl 10 (h := fun K hK => ?_)
        refine step_app (by rfl) _ _ _ (by rfl) _ _ _ _ (by rfl) (by rfl) hrun ?_
        simp only [Act.put, List.setIfInBounds_toArray, List.set_cons_zero, List.set_cons_succ]
        refine hK.out _ _ ⟨e0, e1, e2, e3, e4, e5⟩ (fun hHeld => ?_)
        clear hK K
        refine rtk 11 (h := ?_)
        refine rtk 12 (h := ?_)
        refine rcl 13 (h := fun K hK => ?_)
        go_simp
        have hsf : Fr (fun k => k = Z) w2 (w2.setCell ⟨Z, 1, none⟩ (.slice ao' n' c')) := set_fr rfl
        refine hK.out _ _ ⟨hsf.cell (by omega) e0, hsf.cell (by omega) e1, hsf.cell (by omega) e2, hsf.cell (by omega) e3, hsf.cell (by omega) e4, hsf.cell (by omega) e5⟩ (fun hHeld => ?_)
        clear hK K
        refine wpAnyH_done (by kernel_rfl) ?_ _
        refine NoPanic.normal ?_
        obtain ⟨cnt2, hrg3, hc2, hbe3⟩ := (unhide HDONE) _ (unhide HSI3) (unhide HFR3)
        have HBE3 := hide hbe3
        have hc2' := hide hc2
        generalize w2.setCell ⟨Z, 1, none⟩ (.slice ao' n' c') = w3 at hrg3 HSI3 HBE3 ⊢
        clear hcc hff hzw e0 e1 e2 e3 e4 e5 hbe3 HFR3 hsf HHZ hcz HAPP HDONE hc2 hrun
        go_wp2
        go_roundw
        case rel => exact ⟨_, cnt2, C ++ [(⟨c, s⟩ : Rw)], hrg3, by rw [← List.append_assoc]; exact HSI3, hide (unhide HSTP).1, HBE3⟩
        case measure => rw [hrg3.left_eq, unhide HLEFT, unhide hc2']; exact hlt
theorem take_any {w : World} {T : Nat} {S : Rw → Prop} {n : Int} {F : Nat → Prop} {M : Nat} {G : Gr} {p : Path} {a : Nod} {Z : Nat} {nv : Value} {H R : List Rw} (h : TG w T S n F M G) (hp : G p = some a) (hF : ∀ k, F k → k < Z) (hs : SI w Z nv H) (hH : H.Nodup) (hHp : ∀ x ∈ H, S x ∧ lv x.s.f ≠ p) (hR : ∀ x, S x → x ∈ R) (hK : R.length ≤ 1000000) :
    Calls Tryz.prog 49 #[.pointer (some ⟨Z, 0, none⟩), .pointer (some ⟨a.blk, 0, none⟩)] w (Got w Z nv H (fun x => S x ∧ lv x.s.f = p)) := by
  cases hsm : a.sm with
  | some b => exact take_some h hp hsm hF hs hH hHp hR hK
  | none =>
    have c1 := (h.nod hp).2.1
    rw [hsm] at c1
    refine take_none c1 hs (fun x hx => ?_)
    obtain ⟨D, hD, h2, _⟩ := h.sub p a hp
    rw [hsm] at hD
    obtain rfl : D = .map [] := hD
    have := (h2 x hx.1 hx.2).1
    cases this
end Go.Proofs.YtdjpllmgjmnolaaGreatDoor.Y
