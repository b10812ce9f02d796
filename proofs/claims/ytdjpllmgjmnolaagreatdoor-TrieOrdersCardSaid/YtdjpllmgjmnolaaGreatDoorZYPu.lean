/- Proved here: contracts of the index's put and bare. Helper contracts. -/
import Derived.Test.YtdjpllmgjmnolaaGreatDoorZYGr
namespace Go.Proofs.YtdjpllmgjmnolaaGreatDoor.Y
open Go.RowKit Go.Maps
set_option maxRecDepth 100000

/-- the subscriptions, with one more in the place of what was there -/
def insS (S : Rw → Prop) (y : Rw) : Rw → Prop := fun x => x = y ∨ (S x ∧ ¬ (x.c = y.c ∧ x.s.f = y.s.f))
/-- .. without one -/
def delS (S : Rw → Prop) (c f : ByteArray) : Rw → Prop := fun x => S x ∧ ¬ (x.c = c ∧ x.s.f = f)
def hadS (S : Rw → Prop) (c f : ByteArray) : Prop := ∃ x, S x ∧ x.c = c ∧ x.s.f = f
theorem kk_ne {c f c' f' : ByteArray} (hc : c.size ≤ maxLen) (hf : f.size ≤ maxLen) (hc' : c'.size ≤ maxLen) (hf' : f'.size ≤ maxLen) (h : ¬ (c = c' ∧ f = f')) : kk c f ≠ kk c' f' := fun e => h (kk_inj hc hf hc' hf' e)
theorem sub_put {w' : World} {S : Rw → Prop} {p : Path} {b M : Nat} {D : DataW Unit} {y : Rw} (hm : IsMap D) (h2 : ∀ x, S x → lv x.s.f = p → Maps.has D (kk x.c x.s.f) = true ∧ ∀ z, D.atKey (kk x.c x.s.f) z = sD x.s) (h3 : ∀ c f, c.size ≤ maxLen → f.size ≤ maxLen → Maps.has D (kk c f) = true → ∃ x, S x ∧ x.c = c ∧ x.s.f = f ∧ lv f = p)
    (hok : ∀ x, S x → RwOk x) (hy : RwOk y) (hl : lv y.s.f = p) (ho : w'.ownsMap Tryz.prog 66 sel b (M + 1) (D.put (kk y.c y.s.f) (sD y.s))) : SubIs w' (insS S y) p (some b) (M + 1) := by
  refine ⟨_, ho, fun x hx hp => ?_, fun c f hc hf hh => ?_⟩
  · rcases hx with rfl | ⟨hx, hn⟩
    · exact ⟨has_put_same hm (show WideAt.IsKeyLit (kk _ _) from trivial) _, fun z => atKey_put_same hm (show WideAt.IsKeyLit (kk _ _) from trivial) _ _⟩
    · have hne := kk_ne (hok x hx).c (hok x hx).f hy.c hy.f hn
      rw [has_put_other hne]
      refine ⟨(h2 x hx hp).1, fun z => ?_⟩
      rw [atKey_put_other hne]
      exact (h2 x hx hp).2 z
  · by_cases e : c = y.c ∧ f = y.s.f
    · exact ⟨y, .inl rfl, e.1.symm, e.2.symm, by rw [e.2]; exact hl⟩
    · rw [has_put_other (kk_ne hc hf hy.c hy.f e)] at hh
      obtain ⟨x, hx, e1, e2, e3⟩ := h3 c f hc hf hh
      exact ⟨x, .inr ⟨hx, by rw [e1, e2]; exact e⟩, e1, e2, e3⟩
theorem sub_del {w' : World} {S : Rw → Prop} {p : Path} {mb : Option Nat} {M : Nat} {D : DataW Unit} {c0 f0 : ByteArray} (h2 : ∀ x, S x → lv x.s.f = p → Maps.has D (kk x.c x.s.f) = true ∧ ∀ z, D.atKey (kk x.c x.s.f) z = sD x.s) (h3 : ∀ c f, c.size ≤ maxLen → f.size ≤ maxLen → Maps.has D (kk c f) = true → ∃ x, S x ∧ x.c = c ∧ x.s.f = f ∧ lv f = p)
    (hok : ∀ x, S x → RwOk x) (hc0 : c0.size ≤ maxLen) (hf0 : f0.size ≤ maxLen) (ho : MapR w' 66 sel mb M (D.del (kk c0 f0))) : SubIs w' (delS S c0 f0) p mb M := by
  refine ⟨_, ho, fun x hx hp => ?_, fun c f hc hf hh => ?_⟩
  · obtain ⟨hx, hn⟩ := hx
    have hne := kk_ne (hok x hx).c (hok x hx).f hc0 hf0 hn
    rw [has_del_other hne]
    refine ⟨(h2 x hx hp).1, fun z => ?_⟩
    rw [atKey_del_other hne]
    exact (h2 x hx hp).2 z
  · by_cases e : c = c0 ∧ f = f0
    · rw [e.1, e.2, has_del_same] at hh
      cases hh
    · rw [has_del_other (kk_ne hc hf hc0 hf0 e)] at hh
      obtain ⟨x, hx, e1, e2, e3⟩ := h3 c f hc hf hh
      exact ⟨x, ⟨hx, by rw [e1, e2]; exact e⟩, e1, e2, e3⟩
theorem had_iff {S : Rw → Prop} {p : Path} {D : DataW Unit} {c f : ByteArray} (h2 : ∀ x, S x → lv x.s.f = p → Maps.has D (kk x.c x.s.f) = true ∧ ∀ z, D.atKey (kk x.c x.s.f) z = sD x.s) (h3 : ∀ c f, c.size ≤ maxLen → f.size ≤ maxLen → Maps.has D (kk c f) = true → ∃ x, S x ∧ x.c = c ∧ x.s.f = f ∧ lv f = p)
    (hc : c.size ≤ maxLen) (hf : f.size ≤ maxLen) (hl : lv f = p) : Maps.has D (kk c f) = true ↔ hadS S c f := by
  constructor
  · intro h
    obtain ⟨x, hx, e1, e2, _⟩ := h3 c f hc hf h
    exact ⟨x, hx, e1, e2⟩
  · rintro ⟨x, hx, rfl, rfl⟩
    exact (h2 x hx hl).1
theorem MapR.sub2 {w : World} {mb : Option Nat} {n : Nat} {D : DataW Unit} (h : MapR w 66 sel mb n D) {c f : ByteArray} (hc : c.size ≤ maxLen) (hf : f.size ≤ maxLen) : ∃ s : Sb, ∀ W, MapR W 66 sel mb n D → (Instr.lookup 55 (.map mb) (.agg #[.string c, .string f]) true).run Tryz.prog W = .ok (.tuple #[.agg #[.string s.f, .int .i64 s.q, .bool s.nl, .bool s.ap, .int .i64 s.h], .bool (Maps.has D (kk c f))]) W := by
  cases mb with
  | none =>
    obtain rfl : D = .map [] := h
    exact ⟨default, fun W _ => Maps.look_nil true K_own Tryz.underlying55 (zero_sub W) (key_own hc hf)⟩
  | some b =>
    obtain ⟨v, ps, hr, hv⟩ := World.ownsMap.look_ok h K_own Tryz.underlying55 (zero_sub w) (sel_val default) (key_own hc hf)
    obtain ⟨s, rfl, e⟩ := sel_inv hv
    refine ⟨s, fun W hW => ?_⟩
    obtain ⟨v', ps', hr', hv'⟩ := World.ownsMap.look_ok hW K_own Tryz.underlying55 (zero_sub W) (sel_val default) (key_own hc hf)
    obtain ⟨s', rfl, e'⟩ := sel_inv hv'
    have e1 : sD s' = sD s := by rw [← (Prod.mk.inj e).1, ← (Prod.mk.inj e').1]
    rw [hr', sD_inj e1]
    rfl
/-- a map of the subscriptions is made -/
theorem mk_subs {w w1 : World} {T : Nat} {S : Rw → Prop} {n : Int} {F : Nat → Prop} {M : Nat} {G : Gr} (h : TG w T S n F M G) {p : Path} {a : Nod} (hp : G p = some a) (hsm : a.sm = none) {b : Nat} (hb : w.heap.size ≤ b) (hb1 : b < w1.heap.size) (hcb : w1.heap[b]? = some (.map #[] 0)) (hca : w1.heap[a.blk]? = some (nodeO { a with sm := some b }))
    (hk : ∀ k, k < w.heap.size → k ≠ a.blk → w1.heap[k]? = w.heap[k]?) : TG w1 T S n (fun k => F k ∨ k = b) M (upd G p (some { a with sm := some b })) := by
  refine h.set hp (fun k hk1 hn => hk k (h.low k hk1) (fun e => hn (by rw [e]; exact mem_blk a))) (fun k hk => .inl hk) (fun k hk => ?_) rfl ?_ (fun _ => rfl) (fun k hk => ?_) ?_ hca ?_ ?_ (Nat.le_refl _) (fun _ _ => Iff.rfl) (fun x hx => (h.row x hx).1)
  · rcases hk with hk | hk
    · have := h.low k hk; omega
    · omega
  · intro e
    obtain ⟨r, h1, _, h3⟩ := h.root
    have : r = a := Option.some.inj (by rw [← h1, ← e]; exact hp)
    rw [← this]; exact h3
  · simp only [Nod.blks, Option.toList_some, List.mem_cons, List.mem_append, List.not_mem_nil, or_false] at hk
    rcases hk with hk | hk | hk
    · exact .inl (by rw [hk]; exact mem_blk a)
    · exact .inl (by simp [Nod.blks, hk])
    · exact .inr ⟨by omega, .inr hk⟩
  · have hnd := h.own p a hp
    have hlow : ∀ k ∈ a.blks, k < w.heap.size := fun k hk => h.low k (h.foot p a hp k hk)
    have hbm : ∀ c, a.bm = some c → c ≠ a.blk ∧ c ≠ b := fun c hc => ⟨(nodup_bm hnd hc).1, by have := hlow c (mem_bm hc); omega⟩
    have hba : a.blk ≠ b := by have := hlow a.blk (mem_blk a); omega
    unfold Nod.blks
    cases hm : a.bm with
    | none => simp [hba]
    | some c => simp [hba, (hbm c hm).2, Ne.symm (hbm c hm).1]
  · exact (h.bel p a hp).keep (fun c hc => hk c (h.low c (h.foot p a hp c (mem_bm hc))) (nodup_bm (h.own p a hp) hc).1) (Nat.le_refl _)
  · obtain ⟨D, h1, h2⟩ := h.sub p a hp
    rw [hsm] at h1
    obtain rfl : D = .map [] := h1
    obtain ⟨es, clock, hh, r⟩ := World.ownsMap_made w Tryz.prog 66 sel
    refine ⟨.map [], ⟨#[], 0, hcb, ?_⟩, h2⟩
    have e := (MapKept.heap_alloc w (.map #[] 0)).1
    rw [hh] at e
    simp only [Option.some.injEq, Obj.map.injEq] at e
    obtain ⟨rfl, rfl⟩ := e
    exact ⟨r.1, Nat.zero_le _, rfl⟩
/-- an entry is put -/
theorem put_end {w2 w3 : World} {T : Nat} {S : Rw → Prop} {n : Int} {F : Nat → Prop} {M : Nat} {G : Gr} {p : Path} {a : Nod} {b : Nat} {D : DataW Unit} {y : Rw} (h : TG w2 T S n F M G) (hp : G p = some a) (hsm : a.sm = some b) (hm : IsMap D) (h2 : ∀ x, S x → lv x.s.f = p → Maps.has D (kk x.c x.s.f) = true ∧ ∀ z, D.atKey (kk x.c x.s.f) z = sD x.s) (h3 : ∀ c f, c.size ≤ maxLen → f.size ≤ maxLen → Maps.has D (kk c f) = true → ∃ x, S x ∧ x.c = c ∧ x.s.f = f ∧ lv f = p)
    (hy : RwOk y) (hl : lv y.s.f = p) (ho : w3.ownsMap Tryz.prog 66 sel b (M + 1) (D.put (kk y.c y.s.f) (sD y.s))) (ht : w2.mapTurned w3 b) : TG w3 T (insS S y) n F (M + 1) (upd G p (some a)) ∧ Fr (· = b) w2 w3 := by
  have hfr : Fr (· = b) w2 w3 := turned_fr ht rfl
  have hnd := h.own p a hp
  refine ⟨h.set hp (fun k hk hn => hfr.block k (h.low k hk) (fun e => hn (by rw [e]; exact mem_sm hsm))) (fun k hk => hk) (fun k hk => Nat.lt_of_lt_of_le (h.low k hk) hfr.size) rfl ?_ (fun _ => rfl) (fun k hk => .inl hk) hnd ?_ ?_ ?_ (Nat.le_succ _) (fun x hx => ?_) (fun x hx => ?_), hfr⟩
  · intro e
    obtain ⟨r, h1, _, h3⟩ := h.root
    have : r = a := Option.some.inj (by rw [← h1, ← e]; exact hp)
    rw [← this]; exact h3
  · rw [hfr.block _ (h.low _ (h.foot p a hp _ (mem_blk a))) (fun e => (nodup_sm hnd hsm).1 e.symm)]; exact h.cell p a hp
  · exact (h.bel p a hp).keep (fun c hc => hfr.block c (h.low c (h.foot p a hp c (mem_bm hc))) ((nodup_sm hnd hsm).2 c hc)) (Nat.le_succ _)
  · rw [hsm]
    exact sub_put hm h2 h3 (fun x hx => (h.row x hx).1) hy hl ho
  · constructor
    · rintro (rfl | ⟨h1, _⟩)
      · exact absurd hl hx
      · exact h1
    · intro h1
      exact .inr ⟨h1, fun e => hx (by rw [e.2]; exact hl)⟩
  · rcases hx with rfl | ⟨hx, _⟩
    · exact hy
    · exact (h.row x hx).1
def PutPost (w : World) (T : Nat) (S : Rw → Prop) (n : Int) (F : Nat → Prop) (M : Nat) (y : Rw) (had : Bool) (w' : World) : Prop := (had = true ↔ hadS S y.c y.s.f) ∧ ∃ G' F', TG w' T (insS S y) n F' M G' ∧ Ext F F' w ∧ Fr F w w'
theorem bel_w {w W : World} (h : Below w.heap.size w W) {d j : Nat} {v : Value} (hc : w.cell? ⟨d, j, none⟩ = some v) : W.cell? ⟨d, j, none⟩ = some v := by
  rw [h.cell (p := ⟨d, j, none⟩) (cell_lt hc)]; exact hc
set_option maxHeartbeats 4000000 in
theorem put_some {w : World} {T : Nat} {S : Rw → Prop} {n : Int} {F : Nat → Prop} {M : Nat} {G : Gr} {p : Path} {a : Nod} (c : ByteArray) (s : Sb) (hy : RwOk ⟨c, s⟩) (hM : M ≤ 1000000) (h : TG w T S n F M G) (hp : G p = some a) {b : Nat} (hsm : a.sm = some b) (hl : lv s.f = p) :
    Calls Tryz.prog 38 #[.pointer (some ⟨a.blk, 0, none⟩), .agg #[.string c, .string s.f], .agg #[.string s.f, .int .i64 s.q, .bool s.nl, .bool s.ap, .int .i64 s.h]] w fun e w' => ∃ had, e = .returned (.bool had) ∧ Hid (PutPost w T S n F (M + 1) ⟨c, s⟩ had w') := by
  obtain ⟨_, c1, _, f1, hd⟩ := h.nod hp
  rw [hsm] at c1
  obtain ⟨w1, HW⟩ : ∃ w1, Hid (w1 = (w.alloc (.cells #[.string c, .string s.f] 66)).alloc (.cells #[.string s.f, .int .i64 s.q, .bool s.nl, .bool s.ap, .int .i64 s.h] 28)) := ⟨_, rfl⟩
  have hb1 : Below w.heap.size w w1 := by rw [unhide HW]; exact ((Below.refl _ _).alloc (Nat.le_refl _) _).alloc (by simp) _
  have hT1 := h.below hb1
  have hx : w1.cell? ⟨w.heap.size, 0, none⟩ = some (.string c) ∧ w1.cell? ⟨w.heap.size, 1, none⟩ = some (.string s.f) ∧ w1.cell? ⟨w.heap.size + 1, 0, none⟩ = some (.string s.f) ∧ w1.cell? ⟨w.heap.size + 1, 1, none⟩ = some (.int .i64 s.q) ∧ w1.cell? ⟨w.heap.size + 1, 2, none⟩ = some (.bool s.nl) ∧ w1.cell? ⟨w.heap.size + 1, 3, none⟩ = some (.bool s.ap) ∧ w1.cell? ⟨w.heap.size + 1, 4, none⟩ = some (.int .i64 s.h) := by
    rw [unhide HW]
    refine ⟨?_, ?_, ?_, ?_, ?_, ?_, ?_⟩ <;> simp
  have HFRW : Hid (Fr F w w1) := Fr.of_below hb1
  have HEXT : Hid (Ext F F w) := Ext.refl _ _
  have hp1 := hp
  have hsm1 := hsm
  obtain ⟨a1, ha1⟩ : ∃ a1, a1 = a := ⟨_, rfl⟩
  rw [← ha1] at hp1 hsm1
  have hblk1 : a1.blk = a.blk := by rw [ha1]
  clear ha1
  obtain ⟨D, hD, h2, h3⟩ := hT1.sub p a1 hp1
  rw [hsm1] at hD
  have hD' : w1.ownsMap Tryz.prog 66 sel b M D := hD
  obtain ⟨s0, hlk⟩ := hD.sub2 hy.c hy.f
  have hhad := had_iff h2 h3 hy.c hy.f hl
  have c1' := (hT1.nod hp1).2.1
  rw [hsm1, hblk1] at c1'
  obtain ⟨had, hhd⟩ : ∃ had, Maps.has D (kk c s.f) = had := ⟨_, rfl⟩
  rw [hhd] at hhad
  have hlk' : ∀ W, Below w1.heap.size w1 W → Sem.run Tryz.prog (Instr.lookup 55 (.map (some b)) (.agg #[.string c, .string s.f]) true) W = .ok (.tuple #[.agg #[.string s0.f, .int .i64 s0.q, .bool s0.nl, .bool s0.ap, .int .i64 s0.h], .bool had]) W := fun W hW => by
    have k := hlk W (MapR.keep hD (fun b' e => by cases e; exact hW.block b hD'.lt))
    simp only [] at k
    rw [hhd] at k
    exact k
  obtain ⟨d, hdd⟩ : ∃ d, a.blk = d := ⟨_, rfl⟩
  rw [hdd] at c1 f1 hd c1' hblk1 ⊢
  have HS3 : Hid (∀ W, Below w1.heap.size w1 W → W.cell? ⟨d, 1, none⟩ = some (.map (some b)) ∧ W.cell? ⟨w.heap.size, 0, none⟩ = some (.string c) ∧ W.cell? ⟨w.heap.size, 1, none⟩ = some (.string s.f) ∧ Sem.run Tryz.prog (Instr.lookup 55 (.map (some b)) (.agg #[.string c, .string s.f]) true) W = .ok (.tuple #[.agg #[.string s0.f, .int .i64 s0.q, .bool s0.nl, .bool s0.ap, .int .i64 s0.h], .bool had]) W) := fun W hW => ⟨bel_w hW c1', bel_w hW hx.1, bel_w hW hx.2.1, hlk' W hW⟩
  have HS4 : Hid (∀ W, Below w1.heap.size w1 W → W.cell? ⟨d, 1, none⟩ = some (.map (some b)) ∧ W.cell? ⟨w.heap.size, 0, none⟩ = some (.string c) ∧ W.cell? ⟨w.heap.size, 1, none⟩ = some (.string s.f) ∧ W.cell? ⟨w.heap.size + 1, 0, none⟩ = some (.string s.f) ∧ W.cell? ⟨w.heap.size + 1, 1, none⟩ = some (.int .i64 s.q) ∧ W.cell? ⟨w.heap.size + 1, 2, none⟩ = some (.bool s.nl) ∧ W.cell? ⟨w.heap.size + 1, 3, none⟩ = some (.bool s.ap) ∧ W.cell? ⟨w.heap.size + 1, 4, none⟩ = some (.int .i64 s.h)) := fun W hW => ⟨bel_w hW c1', bel_w hW hx.1, bel_w hW hx.2.1, bel_w hW hx.2.2.1, bel_w hW hx.2.2.2.1, bel_w hW hx.2.2.2.2.1, bel_w hW hx.2.2.2.2.2.1, bel_w hW hx.2.2.2.2.2.2⟩
  have HEND : Hid (∀ w2 w3, Below w1.heap.size w1 w2 → w3.ownsMap Tryz.prog 66 sel b (M + 1) (D.put (kk c s.f) (sD s)) → w2.mapTurned w3 b → PutPost w T S n F (M + 1) ⟨c, s⟩ had w3 ∧ Fr (· = b) w2 w3) := fun w2 w3 hb ho ht => by
    obtain ⟨e1, e2⟩ := put_end (hT1.below hb) hp1 hsm1 hD.isMap h2 h3 hy hl ho ht
    refine ⟨⟨hhad, _, _, e1, unhide HEXT, ?_⟩, e2⟩
    refine (unhide HFRW).trans' ((Fr.of_below hb).trans e2) (fun k hk e => ?_)
    have hbF := hT1.foot p a1 hp1 b (mem_sm hsm1)
    rcases (unhide HEXT).2 b hbF with h1 | h1
    · rw [e]; exact h1
    · omega
  have HDB : Hid (d ≠ b ∧ w.heap.size ≠ b ∧ w.heap.size + 1 ≠ b) := ⟨fun e => (nodup_sm (hT1.own p a1 hp1) hsm1).1 (by rw [← e, hblk1]), fun e => by have k := hD'; obtain ⟨_, _, hh, _⟩ := k; have := hx.1; rw [e] at this; simp [World.cell?, hh] at this, fun e => by have k := hD'; obtain ⟨_, _, hh, _⟩ := k; have := hx.2.2.1; rw [e] at this; simp [World.cell?, hh] at this⟩
  have HOW : Hid (∀ W, Below w1.heap.size w1 W → W.ownsMap Tryz.prog 66 sel b M D) := fun W hW => owns_blk hD' (hW.block b hD'.lt)
  have HKEY : Hid (keyOf Tryz.prog 66 (.agg #[.string c, .string s.f]) = some (kk c s.f)) := key_own hy.c hy.f
  have hmx : M < maxLen := by unfold maxLen; omega
  have hd1 : d < w.heap.size + 1 := by omega
  have hd2 : d < w.heap.size + 1 + 1 := by omega
  clear h hT1 hp hsm hl hy hM hD hD' h2 h3 hlk hlk' hhad c1' hx hblk1 hdd hhd HEXT HFRW hp1 hsm1
  have qm : ∀ (w : World) (r : Option Nat), (binOp .eql 55 (.map r) (.map none)).run Tryz.prog w = .ok (.bool r.isNone) w := fun w r => run_eql_map_nil w _ _ _ r Tryz.underlying55
  go_enter Tryz.func38, Tryz.ntmps38
  go_wp2_with fail
  rw [← unhide HW]
  clear c1 f1 hd hd1 hd2 qm HW
  refine wp_region_noPanic ?_
  refine wp_region_held_drew (S := fun W => W.cell? ⟨d, 1, none⟩ = some (.map (some b)) ∧ W.cell? ⟨w.heap.size, 0, none⟩ = some (.string c) ∧ W.cell? ⟨w.heap.size, 1, none⟩ = some (.string s.f) ∧ Sem.run Tryz.prog (Instr.lookup 55 (.map (some b)) (.agg #[.string c, .string s.f]) true) W = .ok (.tuple #[.agg #[.string s0.f, .int .i64 s0.q, .bool s0.nl, .bool s0.ap, .int .i64 s0.h], .bool had]) W) (by kernel_rfl) ((unhide HS3) _ (below_drewN (Below.refl _ _) 1)) (fun hHeld => ?_)
  refine rtk 0 (h := ?_)
  refine rtk 1 (h := ?_)
  refine rtk 2 (h := ?_)
  refine rtk 3 (h := ?_)
  refine rtk 4 (h := ?_)
  refine rtk 5 (h := ?_)
  refine rtk 6 (h := ?_)
  refine rtk 7 (h := ?_)
  refine rtk 8 (h := ?_)
  refine rcl 9 (h := fun K hK => ?_)
  go_simp
  refine hK.out _ _ ((unhide HS3) _ ((below_drewN (Below.refl _ _) 1).alloc (by simp) _)) (fun hHeld => ?_)
  clear hK K
  refine rcl 10 (h := fun K hK => ?_)
  go_simp
  have HB2 : Hid (Below w1.heap.size w1 (w1.alloc (.cells #[.string s0.f, .int .i64 s0.q, .bool s0.nl, .bool s0.ap, .int .i64 s0.h] 28)).drew) := below_drewN ((Below.refl _ _).alloc (Nat.le_refl _) _) 1
  refine hK.out _ _ ((unhide HS3) _ (unhide HB2)) (fun hHeld => ?_)
  clear hK K
  refine rtk 11 (h := ?_)
  refine wpAnyH_done (by kernel_rfl) ?_ _
  refine NoPanic.normal ?_
  go_wp2_with fail
  generalize (w1.alloc (.cells #[.string s0.f, .int .i64 s0.q, .bool s0.nl, .bool s0.ap, .int .i64 s0.h] 28)).drew = w2 at HB2 ⊢
  clear HS3
  refine wp_region_noPanic ?_
  have HB3 : Hid (Below w1.heap.size w1 w2.drew) := below_drewN (unhide HB2) 1
  obtain ⟨w3, hrun, hown3, hturn⟩ := ((unhide HOW) w2.drew (unhide HB3)).store K_own Tryz.underlying55 hmx (unhide HKEY) (sel_val s)
  have hrun' : Sem.run Tryz.prog (Instr.mapUpdate 55 (.map (some b)) (.agg #[.string c, .string s.f]) (.agg #[.string s.f, .int .i64 s.q, .bool s.nl, .bool s.ap, .int .i64 s.h])) w2.drew = _ := hrun
  obtain ⟨hpost, hfr⟩ := (unhide HEND) w2.drew w3 (unhide HB3) hown3 hturn
  have HP := hide hpost
  have HC3 := hide (unhide HS4 _ (unhide HB3))
  have HC4 : Hid (w3.cell? ⟨d, 1, none⟩ = some (.map (some b)) ∧ w3.cell? ⟨w.heap.size, 0, none⟩ = some (.string c) ∧ w3.cell? ⟨w.heap.size, 1, none⟩ = some (.string s.f) ∧ w3.cell? ⟨w.heap.size + 1, 0, none⟩ = some (.string s.f) ∧ w3.cell? ⟨w.heap.size + 1, 1, none⟩ = some (.int .i64 s.q) ∧ w3.cell? ⟨w.heap.size + 1, 2, none⟩ = some (.bool s.nl) ∧ w3.cell? ⟨w.heap.size + 1, 3, none⟩ = some (.bool s.ap) ∧ w3.cell? ⟨w.heap.size + 1, 4, none⟩ = some (.int .i64 s.h)) := by
    obtain ⟨e1, e2, e3, e4, e5, e6, e7, e8⟩ := unhide HC3
    obtain ⟨n1, n2, n3⟩ := unhide HDB
    exact ⟨hfr.cell n1 e1, hfr.cell n2 e2, hfr.cell n2 e3, hfr.cell n3 e4, hfr.cell n3 e5, hfr.cell n3 e6, hfr.cell n3 e7, hfr.cell n3 e8⟩
  clear hrun hown3 hturn hpost hfr
  refine wp_region_held_drew (S := fun W => W.cell? ⟨d, 1, none⟩ = some (.map (some b)) ∧ W.cell? ⟨w.heap.size, 0, none⟩ = some (.string c) ∧ W.cell? ⟨w.heap.size, 1, none⟩ = some (.string s.f) ∧ W.cell? ⟨w.heap.size + 1, 0, none⟩ = some (.string s.f) ∧ W.cell? ⟨w.heap.size + 1, 1, none⟩ = some (.int .i64 s.q) ∧ W.cell? ⟨w.heap.size + 1, 2, none⟩ = some (.bool s.nl) ∧ W.cell? ⟨w.heap.size + 1, 3, none⟩ = some (.bool s.ap) ∧ W.cell? ⟨w.heap.size + 1, 4, none⟩ = some (.int .i64 s.h)) (by kernel_rfl) (unhide HC3) (fun hHeld => ?_)
  refine rtk 0 (h := ?_)
  refine rtk 1 (h := ?_)
  refine rtk 2 (h := ?_)
  refine rtk 3 (h := ?_)
  refine rtk 4 (h := ?_)
  refine rtk 5 (h := ?_)
  refine rcl 6 (h := fun K hK => ?_)
  go_simp
  refine hK.out _ _ (unhide HC4) (fun hHeld => ?_)
  clear hK K
  refine wpAnyH_done (by kernel_rfl) ?_ _
  refine NoPanic.normal ?_
  go_wp2
  go_ret
  exact ⟨_, rfl, HP⟩
set_option maxHeartbeats 4000000 in
theorem put_none {w : World} {T : Nat} {S : Rw → Prop} {n : Int} {F : Nat → Prop} {M : Nat} {G : Gr} {p : Path} {a : Nod} (c : ByteArray) (s : Sb) (hy : RwOk ⟨c, s⟩) (hM : M ≤ 1000000) (h : TG w T S n F M G) (hp : G p = some a) (hsm : a.sm = none) (hl : lv s.f = p) :
    Calls Tryz.prog 38 #[.pointer (some ⟨a.blk, 0, none⟩), .agg #[.string c, .string s.f], .agg #[.string s.f, .int .i64 s.q, .bool s.nl, .bool s.ap, .int .i64 s.h]] w fun e w' => ∃ had, e = .returned (.bool had) ∧ Hid (PutPost w T S n F (M + 1) ⟨c, s⟩ had w') := by
  obtain ⟨_, c1, _, f1, hd⟩ := h.nod hp
  rw [hsm] at c1
  obtain ⟨b, hbb⟩ : ∃ b, Hid (b = w.heap.size + 1 + 1) := ⟨_, rfl⟩
  obtain ⟨w1, HW⟩ : ∃ w1, Hid (w1 = (((w.setCell ⟨a.blk, 1, none⟩ (.map (some (w.heap.size + 1 + 1)))).alloc (.cells #[.string c, .string s.f] 66)).alloc (.cells #[.string s.f, .int .i64 s.q, .bool s.nl, .bool s.ap, .int .i64 s.h] 28)).alloc (.map #[] 0)) := ⟨_, rfl⟩
  have hs0 : (w.setCell ⟨a.blk, 1, none⟩ (.map (some (w.heap.size + 1 + 1)))).heap.size = w.heap.size := by simp [World.setCell]
  have hfr1 : Fr (· = a.blk) w w1 := by rw [unhide HW]; exact (((set_fr (F := (· = a.blk)) rfl).trans (Fr.alloc _ _ _)).trans (Fr.alloc _ _ _)).trans (Fr.alloc _ _ _)
  have hz1 : w1.heap.size = w.heap.size + 1 + 1 + 1 := by rw [unhide HW]; simp [hs0]
  have hcb : w1.heap[b]? = some (.map #[] 0) := by
    rw [unhide HW, unhide hbb]
    have k := (MapKept.heap_alloc (((w.setCell ⟨a.blk, 1, none⟩ (.map (some (w.heap.size + 1 + 1)))).alloc (.cells #[.string c, .string s.f] 66)).alloc (.cells #[.string s.f, .int .i64 s.q, .bool s.nl, .bool s.ap, .int .i64 s.h] 28)) (.map #[] 0)).1
    have e : (((w.setCell ⟨a.blk, 1, none⟩ (.map (some (w.heap.size + 1 + 1)))).alloc (.cells #[.string c, .string s.f] 66)).alloc (.cells #[.string s.f, .int .i64 s.q, .bool s.nl, .bool s.ap, .int .i64 s.h] 28)).heap.size = w.heap.size + 1 + 1 := by simp [hs0]
    rw [e] at k
    exact k
  have hca : w1.heap[a.blk]? = some (nodeO { a with sm := some b }) := by
    rw [unhide HW, unhide hbb, Below.heap_alloc _ _ _ (by simp [hs0]; omega), Below.heap_alloc _ _ _ (by simp [hs0]; omega), Below.heap_alloc _ _ _ (by rw [hs0]; exact hd)]
    have k := set_heap (show w.heap[a.blk]? = some (.cells _ _ (0, 0)) from h.cell p a hp) 1 (.map (some (w.heap.size + 1 + 1))) (by simp)
    rw [k]
    unfold nodeO
    simp
  have hT1 := mk_subs h hp hsm (by have := unhide hbb; omega) (by have := unhide hbb; omega) hcb hca (fun k hk hn => hfr1.block k hk hn)
  have hx : w1.cell? ⟨w.heap.size, 0, none⟩ = some (.string c) ∧ w1.cell? ⟨w.heap.size, 1, none⟩ = some (.string s.f) ∧ w1.cell? ⟨w.heap.size + 1, 0, none⟩ = some (.string s.f) ∧ w1.cell? ⟨w.heap.size + 1, 1, none⟩ = some (.int .i64 s.q) ∧ w1.cell? ⟨w.heap.size + 1, 2, none⟩ = some (.bool s.nl) ∧ w1.cell? ⟨w.heap.size + 1, 3, none⟩ = some (.bool s.ap) ∧ w1.cell? ⟨w.heap.size + 1, 4, none⟩ = some (.int .i64 s.h) := by
    rw [unhide HW]
    generalize w.setCell ⟨a.blk, 1, none⟩ (.map (some (w.heap.size + 1 + 1))) = W at hs0
    rw [← hs0]
    refine ⟨?_, ?_, ?_, ?_, ?_, ?_, ?_⟩ <;> exact Lib.cell?_alloc_some _ (by simp)
  have HFRW : Hid (Fr F w w1) := hfr1.mono (fun k _ e => by rw [e]; exact h.foot p a hp _ (mem_blk a))
  have HEXT : Hid (Ext F (fun k => F k ∨ k = b) w) := ⟨fun k hk => .inl hk, fun k hk => hk.imp id (fun e => by have := unhide hbb; omega)⟩
  generalize (fun k => F k ∨ k = b) = F1 at hT1 HEXT
  have hp1 : upd G p (some { a with sm := some b }) p = some { a with sm := some b } := upd_same _ _ _
  generalize upd G p (some { a with sm := some b }) = G1 at hT1 hp1
  obtain ⟨a1, ha1⟩ : ∃ a1, a1 = { a with sm := some b } := ⟨_, rfl⟩
  rw [← ha1] at hp1
  have hsm1 : a1.sm = some b := by rw [ha1]
  have hblk1 : a1.blk = a.blk := by rw [ha1]
  clear ha1 hs0 hfr1 hcb hca hz1
  obtain ⟨D, hD, h2, h3⟩ := hT1.sub p a1 hp1
  rw [hsm1] at hD
  have hD' : w1.ownsMap Tryz.prog 66 sel b M D := hD
  obtain ⟨s0, hlk⟩ := hD.sub2 hy.c hy.f
  have hhad := had_iff h2 h3 hy.c hy.f hl
  have c1' := (hT1.nod hp1).2.1
  rw [hsm1, hblk1] at c1'
  obtain ⟨had, hhd⟩ : ∃ had, Maps.has D (kk c s.f) = had := ⟨_, rfl⟩
  rw [hhd] at hhad
  have hlk' : ∀ W, Below w1.heap.size w1 W → Sem.run Tryz.prog (Instr.lookup 55 (.map (some b)) (.agg #[.string c, .string s.f]) true) W = .ok (.tuple #[.agg #[.string s0.f, .int .i64 s0.q, .bool s0.nl, .bool s0.ap, .int .i64 s0.h], .bool had]) W := fun W hW => by
    have k := hlk W (MapR.keep hD (fun b' e => by cases e; exact hW.block b hD'.lt))
    simp only [] at k
    rw [hhd] at k
    exact k
  obtain ⟨d, hdd⟩ : ∃ d, a.blk = d := ⟨_, rfl⟩
  rw [hdd] at c1 f1 hd c1' hblk1 HW ⊢
  have HS3 : Hid (∀ W, Below w1.heap.size w1 W → W.cell? ⟨d, 1, none⟩ = some (.map (some b)) ∧ W.cell? ⟨w.heap.size, 0, none⟩ = some (.string c) ∧ W.cell? ⟨w.heap.size, 1, none⟩ = some (.string s.f) ∧ Sem.run Tryz.prog (Instr.lookup 55 (.map (some b)) (.agg #[.string c, .string s.f]) true) W = .ok (.tuple #[.agg #[.string s0.f, .int .i64 s0.q, .bool s0.nl, .bool s0.ap, .int .i64 s0.h], .bool had]) W) := fun W hW => ⟨bel_w hW c1', bel_w hW hx.1, bel_w hW hx.2.1, hlk' W hW⟩
  have HS4 : Hid (∀ W, Below w1.heap.size w1 W → W.cell? ⟨d, 1, none⟩ = some (.map (some b)) ∧ W.cell? ⟨w.heap.size, 0, none⟩ = some (.string c) ∧ W.cell? ⟨w.heap.size, 1, none⟩ = some (.string s.f) ∧ W.cell? ⟨w.heap.size + 1, 0, none⟩ = some (.string s.f) ∧ W.cell? ⟨w.heap.size + 1, 1, none⟩ = some (.int .i64 s.q) ∧ W.cell? ⟨w.heap.size + 1, 2, none⟩ = some (.bool s.nl) ∧ W.cell? ⟨w.heap.size + 1, 3, none⟩ = some (.bool s.ap) ∧ W.cell? ⟨w.heap.size + 1, 4, none⟩ = some (.int .i64 s.h)) := fun W hW => ⟨bel_w hW c1', bel_w hW hx.1, bel_w hW hx.2.1, bel_w hW hx.2.2.1, bel_w hW hx.2.2.2.1, bel_w hW hx.2.2.2.2.1, bel_w hW hx.2.2.2.2.2.1, bel_w hW hx.2.2.2.2.2.2⟩
  have HEND : Hid (∀ w2 w3, Below w1.heap.size w1 w2 → w3.ownsMap Tryz.prog 66 sel b (M + 1) (D.put (kk c s.f) (sD s)) → w2.mapTurned w3 b → PutPost w T S n F (M + 1) ⟨c, s⟩ had w3 ∧ Fr (· = b) w2 w3) := fun w2 w3 hb ho ht => by
    obtain ⟨e1, e2⟩ := put_end (hT1.below hb) hp1 hsm1 hD.isMap h2 h3 hy hl ho ht
    refine ⟨⟨hhad, _, _, e1, unhide HEXT, ?_⟩, e2⟩
    refine (unhide HFRW).trans' ((Fr.of_below hb).trans e2) (fun k hk e => ?_)
    have hbF := hT1.foot p a1 hp1 b (mem_sm hsm1)
    rcases (unhide HEXT).2 b hbF with h1 | h1
    · rw [e]; exact h1
    · omega
  have HDB : Hid (d ≠ b ∧ w.heap.size ≠ b ∧ w.heap.size + 1 ≠ b) := ⟨fun e => (nodup_sm (hT1.own p a1 hp1) hsm1).1 (by rw [← e, hblk1]), fun e => by have k := hD'; obtain ⟨_, _, hh, _⟩ := k; have := hx.1; rw [e] at this; simp [World.cell?, hh] at this, fun e => by have k := hD'; obtain ⟨_, _, hh, _⟩ := k; have := hx.2.2.1; rw [e] at this; simp [World.cell?, hh] at this⟩
  have HOW : Hid (∀ W, Below w1.heap.size w1 W → W.ownsMap Tryz.prog 66 sel b M D) := fun W hW => owns_blk hD' (hW.block b hD'.lt)
  have HKEY : Hid (keyOf Tryz.prog 66 (.agg #[.string c, .string s.f]) = some (kk c s.f)) := key_own hy.c hy.f
  have hmx : M < maxLen := by unfold maxLen; omega
  have hd1 : d < w.heap.size + 1 := by omega
  have hd2 : d < w.heap.size + 1 + 1 := by omega
  clear h hT1 hp hsm hl hy hM hD hD' h2 h3 hlk hlk' hhad c1' hx hblk1 hdd hhd HEXT HFRW hp1 hsm1
  have qm : ∀ (w : World) (r : Option Nat), (binOp .eql 55 (.map r) (.map none)).run Tryz.prog w = .ok (.bool r.isNone) w := fun w r => run_eql_map_nil w _ _ _ r Tryz.underlying55
  have hmm := @run_makeMap Tryz.prog
  go_enter Tryz.func38, Tryz.ntmps38
  go_wp2_with fail
  rw [← unhide HW, ← unhide hbb]
  clear c1 f1 hd hd1 hd2 qm hmm HW
  refine wp_region_noPanic ?_
  refine wp_region_held_drew (S := fun W => W.cell? ⟨d, 1, none⟩ = some (.map (some b)) ∧ W.cell? ⟨w.heap.size, 0, none⟩ = some (.string c) ∧ W.cell? ⟨w.heap.size, 1, none⟩ = some (.string s.f) ∧ Sem.run Tryz.prog (Instr.lookup 55 (.map (some b)) (.agg #[.string c, .string s.f]) true) W = .ok (.tuple #[.agg #[.string s0.f, .int .i64 s0.q, .bool s0.nl, .bool s0.ap, .int .i64 s0.h], .bool had]) W) (by kernel_rfl) ((unhide HS3) _ (below_drewN (Below.refl _ _) 1)) (fun hHeld => ?_)
  refine rtk 0 (h := ?_)
  refine rtk 1 (h := ?_)
  refine rtk 2 (h := ?_)
  refine rtk 3 (h := ?_)
  refine rtk 4 (h := ?_)
  refine rtk 5 (h := ?_)
  refine rtk 6 (h := ?_)
  refine rtk 7 (h := ?_)
  refine rtk 8 (h := ?_)
  refine rcl 9 (h := fun K hK => ?_)
  go_simp
  refine hK.out _ _ ((unhide HS3) _ ((below_drewN (Below.refl _ _) 1).alloc (by simp) _)) (fun hHeld => ?_)
  clear hK K
  refine rcl 10 (h := fun K hK => ?_)
  go_simp
  have HB2 : Hid (Below w1.heap.size w1 (w1.alloc (.cells #[.string s0.f, .int .i64 s0.q, .bool s0.nl, .bool s0.ap, .int .i64 s0.h] 28)).drew) := below_drewN ((Below.refl _ _).alloc (Nat.le_refl _) _) 1
  refine hK.out _ _ ((unhide HS3) _ (unhide HB2)) (fun hHeld => ?_)
  clear hK K
  refine rtk 11 (h := ?_)
  refine wpAnyH_done (by kernel_rfl) ?_ _
  refine NoPanic.normal ?_
  go_wp2_with fail
  generalize (w1.alloc (.cells #[.string s0.f, .int .i64 s0.q, .bool s0.nl, .bool s0.ap, .int .i64 s0.h] 28)).drew = w2 at HB2 ⊢
  clear HS3
  refine wp_region_noPanic ?_
  have HB3 : Hid (Below w1.heap.size w1 w2.drew) := below_drewN (unhide HB2) 1
  obtain ⟨w3, hrun, hown3, hturn⟩ := ((unhide HOW) w2.drew (unhide HB3)).store K_own Tryz.underlying55 hmx (unhide HKEY) (sel_val s)
  have hrun' : Sem.run Tryz.prog (Instr.mapUpdate 55 (.map (some b)) (.agg #[.string c, .string s.f]) (.agg #[.string s.f, .int .i64 s.q, .bool s.nl, .bool s.ap, .int .i64 s.h])) w2.drew = _ := hrun
  obtain ⟨hpost, hfr⟩ := (unhide HEND) w2.drew w3 (unhide HB3) hown3 hturn
  have HP := hide hpost
  have HC3 := hide (unhide HS4 _ (unhide HB3))
  have HC4 : Hid (w3.cell? ⟨d, 1, none⟩ = some (.map (some b)) ∧ w3.cell? ⟨w.heap.size, 0, none⟩ = some (.string c) ∧ w3.cell? ⟨w.heap.size, 1, none⟩ = some (.string s.f) ∧ w3.cell? ⟨w.heap.size + 1, 0, none⟩ = some (.string s.f) ∧ w3.cell? ⟨w.heap.size + 1, 1, none⟩ = some (.int .i64 s.q) ∧ w3.cell? ⟨w.heap.size + 1, 2, none⟩ = some (.bool s.nl) ∧ w3.cell? ⟨w.heap.size + 1, 3, none⟩ = some (.bool s.ap) ∧ w3.cell? ⟨w.heap.size + 1, 4, none⟩ = some (.int .i64 s.h)) := by
    obtain ⟨e1, e2, e3, e4, e5, e6, e7, e8⟩ := unhide HC3
    obtain ⟨n1, n2, n3⟩ := unhide HDB
    exact ⟨hfr.cell n1 e1, hfr.cell n2 e2, hfr.cell n2 e3, hfr.cell n3 e4, hfr.cell n3 e5, hfr.cell n3 e6, hfr.cell n3 e7, hfr.cell n3 e8⟩
  clear hrun hown3 hturn hpost hfr
  refine wp_region_held_drew (S := fun W => W.cell? ⟨d, 1, none⟩ = some (.map (some b)) ∧ W.cell? ⟨w.heap.size, 0, none⟩ = some (.string c) ∧ W.cell? ⟨w.heap.size, 1, none⟩ = some (.string s.f) ∧ W.cell? ⟨w.heap.size + 1, 0, none⟩ = some (.string s.f) ∧ W.cell? ⟨w.heap.size + 1, 1, none⟩ = some (.int .i64 s.q) ∧ W.cell? ⟨w.heap.size + 1, 2, none⟩ = some (.bool s.nl) ∧ W.cell? ⟨w.heap.size + 1, 3, none⟩ = some (.bool s.ap) ∧ W.cell? ⟨w.heap.size + 1, 4, none⟩ = some (.int .i64 s.h)) (by kernel_rfl) (unhide HC3) (fun hHeld => ?_)
  refine rtk 0 (h := ?_)
  refine rtk 1 (h := ?_)
  refine rtk 2 (h := ?_)
  refine rtk 3 (h := ?_)
  refine rtk 4 (h := ?_)
  refine rtk 5 (h := ?_)
  refine rcl 6 (h := fun K hK => ?_)
  go_simp
  refine hK.out _ _ (unhide HC4) (fun hHeld => ?_)
  clear hK K
  refine wpAnyH_done (by kernel_rfl) ?_ _
  refine NoPanic.normal ?_
  go_wp2
  go_ret
  exact ⟨_, rfl, HP⟩
theorem put_any {w : World} {T : Nat} {S : Rw → Prop} {n : Int} {F : Nat → Prop} {M : Nat} {G : Gr} {p : Path} {a : Nod} (c : ByteArray) (s : Sb) (hy : RwOk ⟨c, s⟩) (hM : M ≤ 1000000) (h : TG w T S n F M G) (hp : G p = some a) (hl : lv s.f = p) :
    Calls Tryz.prog 38 #[.pointer (some ⟨a.blk, 0, none⟩), .agg #[.string c, .string s.f], .agg #[.string s.f, .int .i64 s.q, .bool s.nl, .bool s.ap, .int .i64 s.h]] w fun e w' => ∃ had, e = .returned (.bool had) ∧ Hid (PutPost w T S n F (M + 1) ⟨c, s⟩ had w') := by
  cases hsm : a.sm with
  | none => exact put_none c s hy hM h hp hsm hl
  | some b => exact put_some c s hy hM h hp hsm hl
set_option maxHeartbeats 1000000 in
theorem bare_any {w : World} {T : Nat} {S : Rw → Prop} {n : Int} {F : Nat → Prop} {M : Nat} {G : Gr} {p : Path} {a : Nod} (h : TG w T S n F M G) (hp : G p = some a) :
    Calls Tryz.prog 44 #[.pointer (some ⟨a.blk, 0, none⟩)] w fun e w' => (∃ r, e = .returned (.bool r) ∧ Hid (r = true → (∀ l, kids G p l = none) ∧ ∀ x, S x → lv x.s.f ≠ p)) ∧ w' = w := by
  obtain ⟨c0, c1, _, _, _⟩ := h.nod hp
  obtain ⟨D, hD, h1⟩ := h.bel p a hp
  obtain ⟨E, hE, h2, _⟩ := h.sub p a hp
  have l1 := hD.lenB
  have l2 := hE.lenS
  have HE : Hid (Maps.size D = 0 → Maps.size E = 0 → (∀ l, kids G p l = none) ∧ ∀ x, S x → lv x.s.f ≠ p) := fun e1 e2 => by
    refine ⟨fun l => ?_, fun x hx e => ?_⟩
    · have k := (h1 l).1
      rw [has_size0 hD.isMap e1] at k
      cases hk : kids G p l with
      | none => rfl
      | some b => rw [hk] at k; cases k
    · have k := (h2 x hx e).1
      rw [has_size0 hE.isMap e2] at k
      cases k
  clear h hp hD hE h1 h2
  generalize Maps.size D = m1 at l1 HE
  generalize Maps.size E = m2 at l2 HE
  by_cases e1 : m1 = 0
  · by_cases e2 : m2 = 0
    · have k1 : ((m1 : Int) == 0) = true := by simp [e1]
      have k2 : ((m2 : Int) == 0) = true := by simp [e2]
      have HR := hide ((unhide HE) e1 e2)
      clear HE e1 e2
      go_enter Tryz.func44, Tryz.ntmps44
      go_wp2
      go_returns
      exact ⟨⟨_, rfl, fun _ => unhide HR⟩, rfl⟩
    · have k1 : ((m1 : Int) == 0) = true := by simp [e1]
      have k2 : ((m2 : Int) == 0) = false := beq_eq_false_iff_ne.2 (by omega)
      clear HE e1 e2
      go_enter Tryz.func44, Tryz.ntmps44
      go_wp2
      go_returns
      exact ⟨⟨_, rfl, fun e => by cases e⟩, rfl⟩
  · have k1 : ((m1 : Int) == 0) = false := beq_eq_false_iff_ne.2 (by omega)
    clear HE e1
    go_enter Tryz.func44, Tryz.ntmps44
    go_wp2
    go_returns
    exact ⟨⟨_, rfl, fun e => by cases e⟩, rfl⟩
end Go.Proofs.YtdjpllmgjmnolaaGreatDoor.Y
