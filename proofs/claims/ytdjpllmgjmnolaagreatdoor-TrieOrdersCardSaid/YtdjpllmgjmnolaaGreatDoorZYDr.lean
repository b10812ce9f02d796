/- Proved here: the contract of the index's drop: a subscription is gone, and so are the nodes that nothing is left of. Helper contracts. -/
import Derived.Test.YtdjpllmgjmnolaaGreatDoorZYPu
namespace Go.Proofs.YtdjpllmgjmnolaaGreatDoor.Y
open Go.RowKit Go.Maps
set_option maxRecDepth 100000

theorem upd_id {G : Gr} {p : Path} {a : Nod} (h : G p = some a) : upd G p (some a) = G := by
  funext q
  by_cases e : q = p
  · rw [e, upd_same, h]
  · rw [upd_ne G _ e]
theorem TG.pre {w : World} {T : Nat} {S : Rw → Prop} {n : Int} {F : Nat → Prop} {M : Nat} {G : Gr} (h : TG w T S n F M G) : ∀ (k : Nat) (p r : Path), r.length = k → (∃ a, G (p ++ r) = some a) → ∃ a, G p = some a
  | 0, p, r, hr, hx => by
    obtain rfl : r = [] := List.length_eq_zero_iff.1 hr
    simpa using hx
  | k + 1, p, r, hr, hx => by
    obtain ⟨r', l, rfl⟩ : ∃ r' l, r = r' ++ [l] := ⟨r.dropLast, r.getLast (by intro e; rw [e] at hr; cases hr), (List.dropLast_concat_getLast _).symm⟩
    obtain ⟨a, ha⟩ := hx
    rw [← List.append_assoc] at ha
    exact h.pre k p r' (by simpa using hr) (h.par _ _ _ ha)
theorem delS_not {S : Rw → Prop} {c f : ByteArray} (h : ¬ hadS S c f) : delS S c f = S := by
  funext x
  exact propext ⟨fun hx => hx.1, fun hx => ⟨hx, fun e => h ⟨x, hx, e.1, e.2⟩⟩⟩
def DropPost (w : World) (T : Nat) (S : Rw → Prop) (n : Int) (F : Nat → Prop) (M : Nat) (G : Gr) (p : Path) (c f : ByteArray) (had : Bool) (w' : World) : Prop := (had = true ↔ hadS S c f) ∧ (∃ G', TG w' T (delS S c f) n F M G' ∧ ∀ q a, q.length ≤ p.length → G q = some a → G' q = some a) ∧ Fr F w w'
def DrP (w : World) (T : Nat) (S : Rw → Prop) (n : Int) (F : Nat → Prop) (M : Nat) (G : Gr) (p : Path) (c f : ByteArray) (e : Ending) (w' : World) : Prop := ∃ had, e = .returned (.bool had) ∧ Hid (DropPost w T S n F M G p c f had w')
/-- levels in memory -/
def SlS (w : World) (F : Nat → Prop) (ao : Option Addr) (len cap : Nat) (xs : List ByteArray) : Prop := xs.length = len ∧ len ≤ cap ∧ (∀ x ∈ xs, x.size ≤ 70000) ∧ (xs = [] ∨ ∃ lb off, ao = some ⟨lb, off, none⟩ ∧ (¬ F lb ∧ lb < w.heap.size) ∧ ∀ j, j < len → w.cell? ⟨lb, off + j, none⟩ = some (.string (xs.getD j ByteArray.empty)))
theorem SlS.fr {w w' : World} {F : Nat → Prop} {ao : Option Addr} {len cap : Nat} {xs : List ByteArray} (h : SlS w F ao len cap xs) (hf : Fr F w w') : SlS w' F ao len cap xs := by
  obtain ⟨h1, h2, h3, h4⟩ := h
  refine ⟨h1, h2, h3, ?_⟩
  rcases h4 with h4 | ⟨lb, off, e, ⟨hF, hlt⟩, hc⟩
  · exact .inl h4
  · exact .inr ⟨lb, off, e, ⟨hF, Nat.lt_of_lt_of_le hlt hf.size⟩, fun j hj => hf.cell hF (hc j hj)⟩
theorem SlS.tail {w : World} {F : Nat → Prop} {lb off len cap : Nat} {x : ByteArray} {xs : List ByteArray} (h : SlS w F (some ⟨lb, off, none⟩) len cap (x :: xs)) : SlS w F (if cap = 1 then some ⟨lb, off, none⟩ else some ⟨lb, off + 1, none⟩) (len - 1) (cap - 1) xs := by
  obtain ⟨h1, h2, h3, h4⟩ := h
  simp only [List.length_cons] at h1
  refine ⟨by omega, by omega, fun y hy => h3 y (by simp [hy]), ?_⟩
  rcases h4 with h4 | ⟨lb', off', e, hF, hc⟩
  · cases h4
  · simp only [Option.some.injEq, Addr.mk.injEq, and_true] at e
    obtain ⟨rfl, rfl⟩ := e
    cases xs with
    | nil => exact .inl rfl
    | cons y ys =>
      simp only [List.length_cons] at h1
      rw [if_neg (by omega)]
      refine .inr ⟨lb, off + 1, rfl, hF, fun j hj => ?_⟩
      have k := hc (j + 1) (by omega)
      rw [show off + 1 + j = off + (j + 1) from by omega, k]
      rfl
theorem del_end {w2 w3 : World} {T : Nat} {S : Rw → Prop} {n : Int} {F : Nat → Prop} {M : Nat} {G : Gr} {p : Path} {a : Nod} {D : DataW Unit} {c f : ByteArray} (h : TG w2 T S n F M G) (hp : G p = some a) (h2 : ∀ x, S x → lv x.s.f = p → Maps.has D (kk x.c x.s.f) = true ∧ ∀ z, D.atKey (kk x.c x.s.f) z = sD x.s) (h3 : ∀ c f, c.size ≤ maxLen → f.size ≤ maxLen → Maps.has D (kk c f) = true → ∃ x, S x ∧ x.c = c ∧ x.s.f = f ∧ lv f = p)
    (hc : c.size ≤ maxLen) (hf : f.size ≤ maxLen) (hl : lv f = p) (ho : MapR w3 66 sel a.sm M (D.del (kk c f))) (hfr : Fr (fun k => a.sm = some k) w2 w3) : TG w3 T (delS S c f) n F M G := by
  have hnd := h.own p a hp
  have k : TG w3 T (delS S c f) n F M (upd G p (some a)) := by
    refine h.set hp (fun k hk hn => hfr.block k (h.low k hk) (fun e => hn (mem_sm e))) (fun k hk => hk) (fun k hk => Nat.lt_of_lt_of_le (h.low k hk) hfr.size) rfl ?_ (fun _ => rfl) (fun k hk => .inl hk) hnd ?_ ?_ ?_ (Nat.le_refl _) (fun x hx => ?_) (fun x hx => (h.row x hx.1).1)
    · intro e
      obtain ⟨r, h1, _, h3⟩ := h.root
      have : r = a := Option.some.inj (by rw [← h1, ← e]; exact hp)
      rw [← this]; exact h3
    · rw [hfr.block _ (h.low _ (h.foot p a hp _ (mem_blk a))) (fun e => (nodup_sm hnd e).1 rfl)]; exact h.cell p a hp
    · exact (h.bel p a hp).keep (fun c hc => hfr.block c (h.low c (h.foot p a hp c (mem_bm hc))) (fun e => (nodup_sm hnd e).2 c hc rfl)) (Nat.le_refl _)
    · exact sub_del h2 h3 (fun x hx => (h.row x hx).1) hc hf ho
    · exact ⟨fun e => e.1, fun e => ⟨e, fun e2 => hx (by rw [e2.2]; exact hl)⟩⟩
  rw [upd_id hp] at k
  exact k
set_option maxHeartbeats 4000000 in
theorem drop_nil {w : World} {T : Nat} {S : Rw → Prop} {n : Int} {F : Nat → Prop} {M : Nat} {G : Gr} {p : Path} {a : Nod} (c f : ByteArray) (hc : c.size ≤ 70000) (hf : f.size ≤ 70000) (h : TG w T S n F M G) (hp : G p = some a) (hl : lv f = p) (ao : Option Addr) (cap : Nat) :
    Calls Tryz.prog 23 #[.pointer (some ⟨a.blk, 0, none⟩), .slice ao 0 cap, .agg #[.string c, .string f]] w (DrP w T S n F M G p c f) := by
  have hcm : c.size ≤ maxLen := by unfold maxLen; omega
  have hfm : f.size ≤ maxLen := by unfold maxLen; omega
  obtain ⟨w1, HW⟩ : ∃ w1, Hid (w1 = w.alloc (.cells #[.string c, .string f] 66)) := ⟨_, rfl⟩
  have hb1 : Below w.heap.size w w1 := by rw [unhide HW]; exact (Below.refl _ _).alloc (Nat.le_refl _) _
  have hT1 := h.below hb1
  have hx : w1.cell? ⟨w.heap.size, 0, none⟩ = some (.string c) ∧ w1.cell? ⟨w.heap.size, 1, none⟩ = some (.string f) := by
    rw [unhide HW]
    refine ⟨?_, ?_⟩ <;> simp
  obtain ⟨D, hD, h2, h3⟩ := hT1.sub p a hp
  obtain ⟨s0, hlk⟩ := hD.sub2 hcm hfm
  have hhad := had_iff h2 h3 hcm hfm hl
  obtain ⟨_, c1, _, _, hd⟩ := hT1.nod hp
  obtain ⟨had, hhd⟩ : ∃ had, Maps.has D (kk c f) = had := ⟨_, rfl⟩
  rw [hhd] at hhad
  have hkp : ∀ W, Below w1.heap.size w1 W → MapR W 66 sel a.sm M D := fun W hW => MapR.keep hD (fun b' e => hW.block b' (hT1.low b' (hT1.foot p a hp b' (mem_sm e))))
  have hlk' : ∀ W, Below w1.heap.size w1 W → Sem.run Tryz.prog (Instr.lookup 55 (.map a.sm) (.agg #[.string c, .string f]) true) W = .ok (.tuple #[.agg #[.string s0.f, .int .i64 s0.q, .bool s0.nl, .bool s0.ap, .int .i64 s0.h], .bool had]) W := fun W hW => by
    have k := hlk W (hkp W hW)
    rw [hhd] at k
    exact k
  have HDEL : Hid (∀ W ty, Below w1.heap.size w1 W → ∃ w3, Sem.run Tryz.prog (Builtin.delete_ #[55, 66] ty #[.map a.sm, .agg #[.string c, .string f]]) W = .ok (.tuple #[]) w3 ∧ DropPost w T S n F M G p c f had w3 ∧ Fr (fun k => a.sm = some k) W w3) := fun W ty hW => by
    obtain ⟨w3, hr, ho, hfr, _⟩ := (hkp W hW).delS hcm hfm ty
    refine ⟨w3, hr, ⟨hhad, ⟨G, del_end (hT1.below hW) hp h2 h3 hcm hfm hl ho hfr, fun q a _ e => e⟩, ?_⟩, hfr⟩
    exact ((Fr.of_below hb1).trans (Fr.of_below hW)).trans' hfr (fun k hk e => h.foot p a hp k (mem_sm e))
  have HNB : Hid (a.sm ≠ some a.blk ∧ a.sm ≠ some w.heap.size) := ⟨fun e => (nodup_sm (h.own p a hp) e).1 rfl, fun e => absurd (h.low _ (h.foot p a hp _ (mem_sm e))) (Nat.lt_irrefl _)⟩
  generalize a.sm = mb at hD c1 HDEL hlk' HNB hlk hkp
  generalize a.blk = d at c1 hd HNB ⊢
  have HS2 : Hid (∀ W, Below w1.heap.size w1 W → W.cell? ⟨d, 1, none⟩ = some (.map mb) ∧ W.cell? ⟨w.heap.size, 0, none⟩ = some (.string c) ∧ W.cell? ⟨w.heap.size, 1, none⟩ = some (.string f) ∧ Sem.run Tryz.prog (Instr.lookup 55 (.map mb) (.agg #[.string c, .string f]) true) W = .ok (.tuple #[.agg #[.string s0.f, .int .i64 s0.q, .bool s0.nl, .bool s0.ap, .int .i64 s0.h], .bool had]) W) := fun W hW => ⟨bel_w hW c1, bel_w hW hx.1, bel_w hW hx.2, hlk' W hW⟩
  clear h hT1 hp hl hc hf hcm hfm hD h2 h3 hlk hlk' hhad hx hhd c1 hd hkp hb1
  go_enter Tryz.func23, Tryz.ntmps23
  go_wp2_with fail
  rw [← unhide HW]
  clear HW
  refine wp_region_noPanic ?_
  refine wp_region_held_drew (S := fun W => W.cell? ⟨d, 1, none⟩ = some (.map mb) ∧ W.cell? ⟨w.heap.size, 0, none⟩ = some (.string c) ∧ W.cell? ⟨w.heap.size, 1, none⟩ = some (.string f) ∧ Sem.run Tryz.prog (Instr.lookup 55 (.map mb) (.agg #[.string c, .string f]) true) W = .ok (.tuple #[.agg #[.string s0.f, .int .i64 s0.q, .bool s0.nl, .bool s0.ap, .int .i64 s0.h], .bool had]) W) (by kernel_rfl) ((unhide HS2) _ (below_drewN (Below.refl _ _) 1)) (fun hHeld => ?_)
  refine rtk 0 (h := ?_)
  refine rtk 1 (h := ?_)
  refine rtk 2 (h := ?_)
  refine rtk 3 (h := ?_)
  refine rtk 4 (h := ?_)
  refine rtk 5 (h := ?_)
  refine rtk 6 (h := ?_)
  refine rtk 7 (h := ?_)
  refine rtk 8 (h := ?_)
  refine rcl 9 (h := fun K hK => ?_)
  go_simp
  refine hK.out _ _ ((unhide HS2) _ ((below_drewN (Below.refl _ _) 1).alloc (by simp) _)) (fun hHeld => ?_)
  clear hK K
  refine rcl 10 (h := fun K hK => ?_)
  go_simp
  have HB2 : Hid (Below w1.heap.size w1 (w1.alloc (.cells #[.string s0.f, .int .i64 s0.q, .bool s0.nl, .bool s0.ap, .int .i64 s0.h] 28)).drew) := below_drewN ((Below.refl _ _).alloc (Nat.le_refl _) _) 1
  refine hK.out _ _ ((unhide HS2) _ (unhide HB2)) (fun hHeld => ?_)
  clear hK K
  refine rtk 11 (h := ?_)
  refine wpAnyH_done (by kernel_rfl) ?_ _
  refine NoPanic.normal ?_
  go_wp2_with fail
  generalize (w1.alloc (.cells #[.string s0.f, .int .i64 s0.q, .bool s0.nl, .bool s0.ap, .int .i64 s0.h] 28)).drew = w2 at HB2 ⊢
  refine wp_region_noPanic ?_
  have HB3 : Hid (Below w1.heap.size w1 w2.drew) := below_drewN (unhide HB2) 1
  have HC3 := hide (unhide HS2 _ (unhide HB3))
  have hc3 := unhide HC3
  refine wp_region_held_drew (S := fun W => W.cell? ⟨d, 1, none⟩ = some (.map mb) ∧ W.cell? ⟨w.heap.size, 0, none⟩ = some (.string c) ∧ W.cell? ⟨w.heap.size, 1, none⟩ = some (.string f)) (by kernel_rfl) ⟨hc3.1, hc3.2.1, hc3.2.2.1⟩ (fun hHeld => ?_)
  clear hc3
  refine rtk 0 (h := ?_)
  refine rtk 1 (h := ?_)
  refine rtk 2 (h := ?_)
  refine rtk 3 (h := ?_)
  refine rtk 4 (h := ?_)
  refine rcl 5 (h := fun K hK => ?_)
  obtain ⟨w3, hrun, hpost, hfr⟩ := (unhide HDEL) w2.drew 0 (unhide HB3)
  have hC4 : w3.cell? ⟨d, 1, none⟩ = some (.map mb) ∧ w3.cell? ⟨w.heap.size, 0, none⟩ = some (.string c) ∧ w3.cell? ⟨w.heap.size, 1, none⟩ = some (.string f) := by
    obtain ⟨e1, e2, e3, _⟩ := unhide HC3
    obtain ⟨n1, n2⟩ := unhide HNB
    exact ⟨hfr.cell n1 e1, hfr.cell n2 e2, hfr.cell n2 e3⟩
  have HP := hide hpost
  clear hpost hfr
  go_simp
  refine hK.out _ _ hC4 (fun hHeld => ?_)
  clear hK K
  refine wpAnyH_done (by kernel_rfl) ?_ _
  refine NoPanic.normal ?_
  go_wp2
  go_ret
  exact ⟨_, rfl, HP⟩
theorem cut_end {w3 : World} {T : Nat} {S : Rw → Prop} {n : Int} {F : Nat → Prop} {M : Nat} {G : Gr} {p : Path} {x : ByteArray} {a k : Nod} (h : TG w3 T S n F M G) (hp : G p = some a) (hx : x.size ≤ maxLen) (hk : G (p ++ [x.data.toList]) = some k) (hr : (∀ l, kids G (p ++ [x.data.toList]) l = none) ∧ ∀ y, S y → lv y.s.f ≠ p ++ [x.data.toList]) (W : World) (hW : Below w3.heap.size w3 W) (ty : TypeId) :
    ∃ w4, Sem.run Tryz.prog (Builtin.delete_ #[54, 9] ty #[.map a.bm, .string x]) W = .ok (.tuple #[]) w4 ∧ TG w4 T S n F M (upd G (p ++ [x.data.toList]) none) ∧ Fr (fun k => a.bm = some k) W w4 := by
  have hT := h.below hW
  obtain ⟨D, hD, h2⟩ := hT.bel p a hp
  cases hbm : a.bm with
  | none =>
    rw [hbm] at hD
    obtain rfl : D = .map [] := hD
    have e := (h2 x.data.toList).1
    unfold kids at e
    rw [hk] at e
    cases e
  | some b =>
    rw [hbm] at hD
    obtain ⟨w4, hrun, ho, ht⟩ := World.ownsMap.drop hD K_str Tryz.underlying54 (key_str hx) ty
    have hfr : Fr (fun k => some b = some k) W w4 := turned_fr ht rfl
    refine ⟨w4, hrun, hT.cut hp hbm h2 hr.1 hr.2 hfr.size (fun k hk hn => hfr.block k (hT.low k hk) (fun e => hn (Option.some.inj e).symm)) ho, hfr⟩
theorem bys_cons (x : ByteArray) (xs : List ByteArray) : bys (x :: xs) = x.data.toList :: bys xs := rfl
set_option maxHeartbeats 8000000 in
theorem drop_any : ∀ (xs : List ByteArray) {w : World} {T : Nat} {S : Rw → Prop} {n : Int} {F : Nat → Prop} {M : Nat} {G : Gr} {p : Path} {a : Nod} (c f : ByteArray), c.size ≤ 70000 → f.size ≤ 70000 → TG w T S n F M G → G p = some a → lv f = p ++ bys xs → ∀ (ao : Option Addr) (len cap : Nat), SlS w F ao len cap xs →
    Calls Tryz.prog 23 #[.pointer (some ⟨a.blk, 0, none⟩), .slice ao len cap, .agg #[.string c, .string f]] w (DrP w T S n F M G p c f)
  | [], w, T, S, n, F, M, G, p, a, c, f, hc, hf, h, hp, hl, ao, len, cap, hs => by
    obtain ⟨rfl, _⟩ := hs
    exact drop_nil c f hc hf h hp (by simpa [bys] using hl) ao cap
  | x :: xs, w, T, S, n, F, M, G, p, a, c, f, hc, hf, h, hp, hl, ao, len, cap, hs => by
    obtain ⟨hlen, hcap, hxz, hs4⟩ := id hs
    rcases hs4 with hs4 | ⟨lb, off, rfl, ⟨hFl, hll⟩, hcs⟩
    · cases hs4
    have hl0 : 0 < len := by simp only [List.length_cons] at hlen; omega
    have hcap1 : 1 ≤ cap := by omega
    have hl1 : 1 ≤ len := hl0
    have hne : ((len : Int) == 0) = false := beq_eq_false_iff_ne.2 (by omega)
    have hx0 := hcs 0 hl0
    simp only [Nat.add_zero, List.getD_cons_zero] at hx0
    have hxm : x.size ≤ maxLen := by have := hxz x (by simp); unfold maxLen; omega
    have hlp : lv f = p ++ [x.data.toList] ++ bys xs := by rw [hl, bys_cons]; simp
    obtain ⟨w1, HW⟩ : ∃ w1, Hid (w1 = w.alloc (.cells #[.string c, .string f] 66)) := ⟨_, rfl⟩
    have hb1 : Below w.heap.size w w1 := by rw [unhide HW]; exact (Below.refl _ _).alloc (Nat.le_refl _) _
    have hT1 := h.below hb1
    have hbx : w1.cell? ⟨w.heap.size, 0, none⟩ = some (.string c) ∧ w1.cell? ⟨w.heap.size, 1, none⟩ = some (.string f) := by
      rw [unhide HW]
      refine ⟨?_, ?_⟩ <;> simp
    obtain ⟨c0, _, _, _, hd⟩ := hT1.nod hp
    obtain ⟨D, hD, hD2⟩ := hT1.bel p a hp
    have hFX : ¬ F w.heap.size := fun e => absurd (h.low _ e) (Nat.lt_irrefl _)
    have hlk : ∀ W, Below w1.heap.size w1 W → Sem.run Tryz.prog (Instr.lookup 54 (.map a.bm) (.string x) false) W = .ok (kidV (kids G p x.data.toList)) W := fun W hW => (MapR.keep hD (fun b' e => hW.block b' (hT1.low b' (hT1.foot p a hp b' (mem_bm e))))).kid hxm (hD2 x.data.toList).2
    have hx1 := bel_w hb1 hx0
    cases ho : kids G p x.data.toList with
    | none =>
      have HP : Hid (∀ W, Below w1.heap.size w1 W → DropPost w T S n F M G p c f false W) := fun W hW => by
        have hno : ¬ hadS S c f := fun ⟨y, hy, e1, e2⟩ => by
          have k := (h.row y hy).2
          rw [e2, hlp] at k
          obtain ⟨z, hz⟩ := h.pre _ _ _ rfl k
          unfold kids at ho
          rw [hz] at ho
          cases ho
        refine ⟨⟨(fun e => by cases e), fun e => absurd e hno⟩, ⟨G, ?_, fun q a _ e => e⟩, (Fr.of_below hb1).trans (Fr.of_below hW)⟩
        rw [delS_not hno]
        exact hT1.below hW
      rw [ho] at hlk
      simp only [kidV, Option.map_none] at hlk
      generalize a.bm = mb at c0 hlk
      generalize a.blk = d at c0 ⊢
      have HS5 : Hid (∀ W, Below w1.heap.size w1 W → W.cell? ⟨d, 0, none⟩ = some (.map mb) ∧ W.cell? ⟨lb, off, none⟩ = some (.string x) ∧ Sem.run Tryz.prog (Instr.lookup 54 (.map mb) (.string x) false) W = .ok (.pointer none) W) := fun W hW => ⟨bel_w hW c0, bel_w hW hx1, hlk W hW⟩
      clear hs hlen hcap hxz hFl hll hcs hx0 hxm hlp hb1 hT1 hbx c0 hd hD hD2 hFX hlk hx1 ho h hp hl hc hf hcap1
      go_enter Tryz.func23, Tryz.ntmps23
      go_wp2_with fail
      rw [← unhide HW]
      clear HW
      refine wp_region_noPanic ?_
      refine wp_region_held_drew (S := fun W => W.cell? ⟨d, 0, none⟩ = some (.map mb) ∧ W.cell? ⟨lb, off, none⟩ = some (.string x) ∧ Sem.run Tryz.prog (Instr.lookup 54 (.map mb) (.string x) false) W = .ok (.pointer none) W) (by kernel_rfl) ((unhide HS5) _ (below_drewN (Below.refl _ _) 1)) (fun hHeld => ?_)
      refine rtk 0 (h := ?_)
      refine rtk 1 (h := ?_)
      refine rtk 2 (h := ?_)
      refine rtk 3 (h := ?_)
      refine rtk 4 (h := ?_)
      refine rtk 5 (h := ?_)
      refine rtk 6 (h := ?_)
      refine rtk 7 (h := ?_)
      refine rtk 8 (h := ?_)
      refine wpAnyH_done (by kernel_rfl) ?_ _
      refine NoPanic.normal ?_
      go_wp2_with fail
      refine wp_region_noPanic ?_
      refine wp_region_held_drew (S := fun _ => True) (by kernel_rfl) trivial (fun hHeld => ?_)
      refine rtk 0 (h := ?_)
      refine rtk 1 (h := ?_)
      refine rtk 2 (h := ?_)
      refine rsk 3 (h := ?_)
      refine rsk 4 (h := ?_)
      refine rsk 5 (h := ?_)
      refine rsk 6 (h := ?_)
      refine rsk 7 (h := ?_)
      refine rsk 8 (h := ?_)
      refine rtk 9 (h := ?_)
      refine wpAnyH_done (by kernel_rfl) ?_ _
      refine NoPanic.normal ?_
      go_wp2
      go_ret
      exact ⟨_, rfl, (unhide HP) _ (below_drewN (below_drewN (Below.refl _ _) 1) 1)⟩
    | some kb =>
      obtain ⟨k, hk, hkb⟩ : ∃ k, G (p ++ [x.data.toList]) = some k ∧ k.blk = kb := by unfold kids at ho; simpa using ho
      obtain ⟨ao1, HAO⟩ : ∃ ao1, Hid (ao1 = if cap = 1 then some (⟨lb, off, none⟩ : Addr) else some ⟨lb, off + 1, none⟩) := ⟨_, rfl⟩
      have HIH : Hid (∀ W, Below w1.heap.size w1 W → Calls Tryz.prog 23 #[.pointer (some ⟨kb, 0, none⟩), .slice ao1 (len - 1) (cap - 1), .agg #[.string c, .string f]] W (DrP W T S n F M G (p ++ [x.data.toList]) c f)) := fun W hW => by
        rw [unhide HAO]
        have hfrW : Fr F w W := (Fr.of_below hb1).trans (Fr.of_below hW)
        have e := drop_any xs c f hc hf (hT1.below hW) hk hlp _ _ _ (hs.fr hfrW).tail
        rw [hkb] at e
        exact e
      have HFW : Hid (∀ W w3, Below w1.heap.size w1 W → Fr F W w3 → Fr F w w3) := fun W w3 hW hf3 => ((Fr.of_below hb1).trans (Fr.of_below hW)).trans hf3
      rw [ho] at hlk
      simp only [kidV, Option.map_some] at hlk
      have HLX : Hid (∀ W w3, Below w1.heap.size w1 W → Fr F W w3 → w3.cell? ⟨lb, off, none⟩ = some (.string x) ∧ w3.cell? ⟨w.heap.size, 0, none⟩ = some (.string c) ∧ w3.cell? ⟨w.heap.size, 1, none⟩ = some (.string f)) := fun W w3 hW hf3 => ⟨hf3.cell hFl (bel_w hW hx1), hf3.cell hFX (bel_w hW hbx.1), hf3.cell hFX (bel_w hW hbx.2)⟩
      have HBX := hide hbx
      have HBAR : Hid (∀ w3 G', TG w3 T (delS S c f) n F M G' → G' (p ++ [x.data.toList]) = some k → Calls Tryz.prog 44 #[.pointer (some ⟨kb, 0, none⟩)] w3 fun e w' => (∃ r, e = .returned (.bool r) ∧ Hid (r = true → (∀ l, kids G' (p ++ [x.data.toList]) l = none) ∧ ∀ y, delS S c f y → lv y.s.f ≠ p ++ [x.data.toList])) ∧ w' = w3) := fun w3 G' hT hk' => by
        have e := bare_any hT hk'
        rw [hkb] at e
        exact e
      have HKEEP : Hid (∀ G', (∀ q a, q.length ≤ (p ++ [x.data.toList]).length → G q = some a → G' q = some a) → G' p = some a ∧ G' (p ++ [x.data.toList]) = some k ∧ (∀ q a, q.length ≤ p.length → G q = some a → G' q = some a) ∧ ∀ q a, q.length ≤ p.length → G q = some a → upd G' (p ++ [x.data.toList]) none q = some a) := fun G' e => ⟨e p a (by simp) hp, e _ k (Nat.le_refl _) hk, fun q a hq h1 => e q a (by simp; omega) h1, fun q a hq h1 => by
        rw [upd_ne G' _ (fun e2 => by rw [e2] at hq; simp at hq; omega)]
        exact e q a (by simp; omega) h1⟩
      have HCUT : Hid (∀ w3 G', TG w3 T (delS S c f) n F M G' → G' p = some a → G' (p ++ [x.data.toList]) = some k → ((∀ l, kids G' (p ++ [x.data.toList]) l = none) ∧ ∀ y, delS S c f y → lv y.s.f ≠ p ++ [x.data.toList]) → ∀ W ty, Below w3.heap.size w3 W → ∃ w4, Sem.run Tryz.prog (Builtin.delete_ #[54, 9] ty #[.map a.bm, .string x]) W = .ok (.tuple #[]) w4 ∧ TG w4 T (delS S c f) n F M (upd G' (p ++ [x.data.toList]) none) ∧ Fr (fun k => a.bm = some k) W w4) := fun w3 G' hT h1 h2 hr W ty hW => cut_end hT h1 hxm h2 hr W hW ty
      have HNOD : Hid (∀ w3 G', TG w3 T (delS S c f) n F M G' → G' p = some a → w3.cell? ⟨a.blk, 0, none⟩ = some (.map a.bm)) := fun w3 G' hT h1 => (hT.nod h1).1
      have HBM : Hid ((∀ k, a.bm = some k → F k) ∧ a.bm ≠ some a.blk ∧ a.bm ≠ some lb) := ⟨fun k e => h.foot p a hp k (mem_bm e), fun e => (nodup_bm (h.own p a hp) e).1 rfl, fun e => hFl (h.foot p a hp lb (mem_bm e))⟩
      generalize hq : p ++ [x.data.toList] = q at HIH HBAR HKEEP HCUT
      generalize a.bm = mb at c0 hlk HCUT HNOD HBM
      generalize a.blk = d at c0 HNOD HBM ⊢
      have HS5 : Hid (∀ W, Below w1.heap.size w1 W → W.cell? ⟨d, 0, none⟩ = some (.map mb) ∧ W.cell? ⟨lb, off, none⟩ = some (.string x) ∧ Sem.run Tryz.prog (Instr.lookup 54 (.map mb) (.string x) false) W = .ok (.pointer (some ⟨kb, 0, none⟩)) W) := fun W hW => ⟨bel_w hW c0, bel_w hW hx1, hlk W hW⟩
      have HB1 := hide hb1
      clear hs hlen hxz hFl hll hcs hx0 hxm hlp hb1 hT1 hbx c0 hd hD hD2 hFX hlk hx1 ho h hp hl hc hf hk hkb hq
      go_enter Tryz.func23, Tryz.ntmps23
      go_wp2_with fail
      rw [← unhide HW]
      clear HW
      refine wp_region_noPanic ?_
      refine wp_region_held_drew (S := fun W => W.cell? ⟨d, 0, none⟩ = some (.map mb) ∧ W.cell? ⟨lb, off, none⟩ = some (.string x) ∧ Sem.run Tryz.prog (Instr.lookup 54 (.map mb) (.string x) false) W = .ok (.pointer (some ⟨kb, 0, none⟩)) W) (by kernel_rfl) ((unhide HS5) _ (below_drewN (Below.refl _ _) 1)) (fun hHeld => ?_)
      refine rtk 0 (h := ?_)
      refine rtk 1 (h := ?_)
      refine rtk 2 (h := ?_)
      refine rtk 3 (h := ?_)
      refine rtk 4 (h := ?_)
      refine rtk 5 (h := ?_)
      refine rtk 6 (h := ?_)
      refine rtk 7 (h := ?_)
      refine rtk 8 (h := ?_)
      refine wpAnyH_done (by kernel_rfl) ?_ _
      refine NoPanic.normal ?_
      go_wp2_with fail
      refine wp_region_noPanic ?_
      have HB2 : Hid (Below w1.heap.size w1 w1.drew.drew) := below_drewN (below_drewN (Below.refl _ _) 1) 1
      refine wp_region_held_drew (S := fun W => W.cell? ⟨w.heap.size, 0, none⟩ = some (.string c) ∧ W.cell? ⟨w.heap.size, 1, none⟩ = some (.string f)) (by kernel_rfl) (unhide HBX) (fun hHeld => ?_)
      refine rtk 0 (h := ?_)
      refine rtk 1 (h := ?_)
      refine rtk 2 (h := ?_)
      refine rtk 3 (h := ?_)
      refine rtk 4 (h := ?_)
      refine rtk 5 (h := ?_)
      rw [← unhide HAO]
      refine rtk 6 (h := ?_)
      refine rcl 7 (h := fun K hK => ?_)
      go_simp
      refine ((unhide HIH) _ (unhide HB2)).mono ?_
      rintro e w3 ⟨had, rfl, HD3⟩
      obtain ⟨hhad, ⟨G', hT3, hkeep⟩, hfr3⟩ := unhide HD3
      have HLX3 := hide ((unhide HLX) _ w3 (unhide HB2) hfr3)
      obtain ⟨hp3, hk3, hkp3, hkc3⟩ := (unhide HKEEP) G' hkeep
      have HFW3 := hide ((unhide HFW) _ w3 (unhide HB2) hfr3)
      have HPA : Hid (DropPost w T S n F M G p c f had w3) := ⟨hhad, ⟨G', hT3, hkp3⟩, unhide HFW3⟩
      have HPC : Hid (∀ w4, TG w4 T (delS S c f) n F M (upd G' q none) → Fr F w3 w4 → DropPost w T S n F M G p c f had w4) := fun w4 hT4 hf4 => ⟨hhad, ⟨_, hT4, hkc3⟩, (unhide HFW3).trans hf4⟩
      have HC03 := hide ((unhide HNOD) w3 G' hT3 hp3)
      have HBR := hide ((unhide HBAR) w3 G' hT3 hk3)
      have HCT := hide (fun hr => (unhide HCUT) w3 G' hT3 hp3 hk3 hr)
      refine hK.out _ _ ⟨(unhide HLX3).2.1, (unhide HLX3).2.2⟩ (fun hHeld => ?_)
      clear hK K hhad hT3 hkeep hfr3 hp3 hk3 hkp3 hkc3 HD3
      refine rtk 8 (h := ?_)
      refine rtk 9 (h := ?_)
      refine wpAnyH_done (by kernel_rfl) ?_ _
      refine NoPanic.normal ?_
      cases had with
      | false =>
        go_wp2
        go_ret
        exact ⟨_, rfl, HPA⟩
      | true =>
        go_wp2_with fail
        refine (unhide HBR).mono ?_
        rintro e w' ⟨⟨r, rfl, HR⟩, hw⟩
        obtain rfl := hw.symm
        clear hw
        cases r with
        | false =>
          go_wp2
          go_ret
          exact ⟨_, rfl, HPA⟩
        | true =>
          go_wp2_with fail
          refine wp_region_noPanic ?_
          refine wp_region_held_drew (S := fun W => W.cell? ⟨d, 0, none⟩ = some (.map mb) ∧ W.cell? ⟨lb, off, none⟩ = some (.string x)) (by kernel_rfl) ⟨unhide HC03, (unhide HLX3).1⟩ (fun hHeld => ?_)
          refine rtk 0 (h := ?_)
          refine rtk 1 (h := ?_)
          refine rtk 2 (h := ?_)
          refine rtk 3 (h := ?_)
          refine rtk 4 (h := ?_)
          refine rtk 5 (h := ?_)
          refine rtk 6 (h := ?_)
          obtain ⟨w4, hrun, hT4, hfr4⟩ := (unhide HCT) ((unhide HR) trivial) w3.drew 0 (below_drewN (Below.refl _ _) 1)
          have hC4 : w4.cell? ⟨d, 0, none⟩ = some (.map mb) ∧ w4.cell? ⟨lb, off, none⟩ = some (.string x) := ⟨hfr4.cell (unhide HBM).2.1 (unhide HC03), hfr4.cell (unhide HBM).2.2 (unhide HLX3).1⟩
          have HPD := hide ((unhide HPC) w4 hT4 ((Fr.drewN F w3 1).trans (hfr4.mono (fun k _ e => (unhide HBM).1 k e))))
          clear hT4 hfr4
          refine rcl 7 (h := fun K hK => ?_)
          go_simp
          refine hK.out _ _ hC4 (fun hHeld => ?_)
          clear hK K
          refine wpAnyH_done (by kernel_rfl) ?_ _
          refine NoPanic.normal ?_
          go_wp2
          go_ret
          exact ⟨_, rfl, HPD⟩
end Go.Proofs.YtdjpllmgjmnolaaGreatDoor.Y
