/- Proved here: contracts of the index's New, Count, levelsOf and Add. Helper contracts. -/
import Derived.Test.YtdjpllmgjmnolaaGreatDoorZYDr
import Derived.Test.YtdjpllmgjmnolaaGreatDoorZKEr2
import Derived.Test.YtdjpllmgjmnolaaGreatDoorZQTop3
namespace Go.Proofs.YtdjpllmgjmnolaaGreatDoor.Y
open Go.RowKit Go.Maps
set_option maxRecDepth 100000

/-- an index in memory -/
def TR (w : World) (T : Nat) (S : Rw → Prop) (n : Int) (F : Nat → Prop) (M : Nat) : Prop := ∃ G, TG w T S n F M G
theorem TR.fr {w w' : World} {T : Nat} {S : Rw → Prop} {n : Int} {F K : Nat → Prop} {M : Nat} (h : TR w T S n F M) (hf : Fr K w w') (hK : ∀ k, F k → ¬ K k) : TR w' T S n F M := by
  obtain ⟨G, h⟩ := h
  exact ⟨G, h.fr hf hK⟩
theorem TR.below {w w' : World} {T : Nat} {S : Rw → Prop} {n : Int} {F : Nat → Prop} {M : Nat} (h : TR w T S n F M) (hb : Below w.heap.size w w') : TR w' T S n F M := by
  obtain ⟨G, h⟩ := h
  exact ⟨G, h.below hb⟩
def G0 (T : Nat) : Gr := fun q => if q = [] then some ⟨T, none, none, [.int .i64 0], 59⟩ else none
theorem g0_some {T : Nat} {q : Path} {a : Nod} (h : G0 T q = some a) : q = [] ∧ a = ⟨T, none, none, [.int .i64 0], 59⟩ := by
  unfold G0 at h
  by_cases e : q = []
  · rw [if_pos e] at h; exact ⟨e, (Option.some.inj h).symm⟩
  · rw [if_neg e] at h; cases h
theorem new_any (w : World) : Calls Tryz.prog 6 #[] w fun e w' => e = .returned (.pointer (some ⟨w.heap.size, 0, none⟩)) ∧ Hid (TR w' w.heap.size (fun _ => False) 0 (fun k => k = w.heap.size) 0) ∧ Below w.heap.size w w' := by
  go_enter Tryz.func6, Tryz.ntmps6
  go_wp2
  go_ret
  refine ⟨rfl, ⟨G0 w.heap.size, ?_⟩, (Below.refl _ _).alloc (Nat.le_refl _) _⟩
  have hheap := (MapKept.heap_alloc w (.cells #[.map none, .map none, .int .i64 0] 59)).1
  refine ⟨⟨_, by unfold G0; rw [if_pos rfl], rfl, rfl⟩, ?_, ?_, ?_, ?_, ?_, ?_, ?_, ?_, ?_, ?_⟩
  · intro p l a h
    have := congrArg List.length (g0_some h).1
    simp at this
  · intro p a h
    rw [(g0_some h).1]; simp
  · intro p q a b h1 h2 _ _ _
    rw [(g0_some h1).1, (g0_some h2).1]
  · intro p a h
    rw [(g0_some h).2]; simp [Nod.blks]
  · intro p a h k hk
    rw [(g0_some h).2] at hk
    simpa [Nod.blks] using hk
  · intro k hk
    rw [hk]; simp
  · intro x hx
    exact hx.elim
  · intro p a h
    rw [(g0_some h).2]
    exact hheap
  · intro p a h
    obtain ⟨rfl, rfl⟩ := g0_some h
    refine ⟨.map [], rfl, fun l => ?_⟩
    have e : kids (G0 w.heap.size) [] l = none := by unfold kids G0; rw [if_neg (by simp)]; rfl
    rw [e]
    exact ⟨rfl, rfl⟩
  · intro p a h
    obtain ⟨rfl, rfl⟩ := g0_some h
    exact ⟨.map [], rfl, fun x hx => hx.elim, fun c f _ _ e => by cases e⟩
theorem TG.cnt {w : World} {T : Nat} {S : Rw → Prop} {n : Int} {F : Nat → Prop} {M : Nat} {G : Gr} (h : TG w T S n F M G) : ∃ a, G [] = some a ∧ a.blk = T ∧ a.tl = [.int .i64 n] ∧ w.cell? ⟨T, 2, none⟩ = some (.int .i64 n) ∧ w.frozen? ⟨T, 2, none⟩ = false ∧ F T := by
  obtain ⟨a, h1, h2, h3⟩ := h.root
  have hc := h.cell [] a h1
  unfold nodeO at hc
  rw [h2, h3] at hc
  exact ⟨a, h1, h2, h3, by rw [cell_of hc]; rfl, frozen_of hc 2, by rw [← h2]; exact h.foot [] a h1 _ (mem_blk a)⟩
theorem count_any {w : World} {T : Nat} {S : Rw → Prop} {n : Int} {F : Nat → Prop} {M : Nat} (h : TR w T S n F M) : Calls Tryz.prog 17 #[.pointer (some ⟨T, 0, none⟩)] w fun e w' => e = .returned (.int .i64 n) ∧ w' = w := by
  obtain ⟨G, h⟩ := h
  obtain ⟨a, _, _, _, hc, _⟩ := h.cnt
  clear h
  go_enter Tryz.func17, Tryz.ntmps17
  go_wp2
  go_ret
  exact ⟨rfl, rfl⟩
/-- the count is set -/
theorem set_cnt {w : World} {T : Nat} {S : Rw → Prop} {n : Int} {F : Nat → Prop} {M : Nat} (h : TR w T S n F M) (n' : Int) : TR (w.setCell ⟨T, 2, none⟩ (.int .i64 n')) T S n' F M ∧ Fr F w (w.setCell ⟨T, 2, none⟩ (.int .i64 n')) := by
  obtain ⟨G, h⟩ := h
  obtain ⟨a, h1, h2, h3, _, _, hF⟩ := h.cnt
  have hfr : Fr (fun k => k = T) w (w.setCell ⟨T, 2, none⟩ (.int .i64 n')) := set_fr rfl
  have hs : (w.setCell ⟨T, 2, none⟩ (.int .i64 n')).heap.size = w.heap.size := by simp [World.setCell]
  have hnd := h.own [] a h1
  refine ⟨⟨_, h.set (a' := { a with tl := [.int .i64 n'] }) h1 (fun k hk hn => hfr.block k (h.low k hk) (fun e => hn (by rw [e, ← h2]; exact mem_blk a))) (fun k hk => hk) (fun k hk => by rw [hs]; exact h.low k hk) rfl (fun _ => rfl) (fun e => absurd rfl e) (fun k hk => .inl hk) hnd ?_ ?_ ?_ (Nat.le_refl _) (fun _ _ => Iff.rfl) (fun x hx => (h.row x hx).1)⟩, hfr.mono (fun k _ e => by rw [e]; exact hF)⟩
  · have hc := h.cell [] a h1
    unfold nodeO at hc
    rw [h2, h3] at hc
    have k := set_heap hc 2 (.int .i64 n') (by simp)
    show (w.setCell ⟨T, 2, none⟩ (.int .i64 n')).heap[a.blk]? = _
    rw [h2, k]
    unfold nodeO
    simp
  · exact (h.bel [] a h1).keep (fun c hc => hfr.block c (h.low c (h.foot [] a h1 c (mem_bm hc))) (fun e => (nodup_bm hnd hc).1 (by rw [e, h2]))) (Nat.le_refl _)
  · exact (h.sub [] a h1).keep (fun c hc => hfr.block c (h.low c (h.foot [] a h1 c (mem_sm hc))) (fun e => (nodup_sm hnd hc).1 (by rw [e, h2]))) (Nat.le_refl _)

/-! errors, levels -/
theorem yfault_any (d : Nat) (hd : d ≤ 2) (v : Value) (n : Int) (w : World) (h : Er w d v n) :
    Calls Tryz.prog 29 #[v] w fun e w' => ∃ x, e = .returned (.iface 86 x) ∧ Hid (ErrX w' (.iface 86 x) n) ∧ Below w.heap.size w w' := by
  have H := hide h
  obtain ⟨tt, x, rfl⟩ := h.iface
  clear h
  go_enter Tryz.func29, Tryz.ntmps29
  go_wp2
  go_returns
  exact ⟨_, rfl, .inr ⟨d + 1, by omega, _, _, rfl, by simp, (unhide H).below ((Below.refl _ _).alloc (Nat.le_refl _) _)⟩, (Below.refl _ _).alloc (Nat.le_refl _) _⟩
theorem er1 {w : World} {x : Value} {n : Int} (h : ErrIs w (.iface 86 x) n) : Er w 1 (.iface 86 x) n := by
  rcases h with ⟨_, h⟩ | ⟨b, h, hc⟩
  · cases h
  · exact ⟨b, _, h, hc, rfl⟩
/-- levels in a row of their own -/
def NewS (w : World) (w' : World) (lb cap : Nat) (xs : List ByteArray) : Prop := xs.length ≤ cap ∧ xs.length ≤ 70001 ∧ w.heap.size ≤ lb ∧ lb < w'.heap.size ∧ (∀ j, j < xs.length → w'.cell? ⟨lb, 0 + j, none⟩ = some (.string (xs.getD j ByteArray.empty))) ∧ Below w.heap.size w w'
theorem split_new (s : ByteArray) (w : World) (hs : s.size ≤ 70000) (hm : Len w) :
    Calls Tryz.prog 30 #[.string s, .string ⟨#[47]⟩] w fun e w' => ∃ lb cap, e = .returned (.slice (some ⟨lb, 0, none⟩) (lvB s).length cap) ∧ Hid (NewS w w' lb cap (lvB s)) := by
  obtain ⟨m, hm⟩ := hm
  refine (Tryz.strings_Split s ⟨#[47]⟩ m w (by omega) hm (by decide)).mono ?_
  rintro e w' ⟨rfl, rfl⟩
  have hl : Lib.countB s ⟨#[47]⟩ + 1 = (lvB s).length := by rw [lvB_len, countB_slash]
  have hc : s.data.toList.count 47 ≤ s.size := by rw [← size_len]; exact List.count_le_length
  rw [splitB_lvB, hl]
  refine ⟨_, _, rfl, Nat.le_refl _, by rw [lvB_len]; omega, Nat.le_refl _, by simp, fun j hj => ?_, (Below.refl _ _).alloc (Nat.le_refl _) _⟩
  rw [Nat.zero_add, World.cell?_alloc_at _ _ _ _ rfl]
  exact getD_mapStr _ j hj
theorem levels_yes (f : ByteArray) (w : World) (hs : f.size ≤ 70000) (hm : Len w) (h : okF f = true) :
    Calls Tryz.prog 22 #[.string f] w fun e w' => ∃ lb cap len xs, e = .returned (.tuple #[.slice (some ⟨lb, 0, none⟩) len cap, .nilIface]) ∧ Hid (NewS w w' lb cap xs ∧ xs.length = len ∧ bys xs = lv f ∧ ∀ j, j < xs.length → (xs.getD j ByteArray.empty).size ≤ 70000) := by
  have hk : ∃ g p, flt f.data.toList = some (g, p) ∧ lv f = lvl p := by
    unfold okF at h
    unfold lv
    cases he : flt f.data.toList with
    | none => rw [he] at h; cases h
    | some x => obtain ⟨g, p⟩ := x; exact ⟨g, p, rfl, rfl⟩
  obtain ⟨g, p, hf, hlv⟩ := hk
  have HF := hide (filter_yes f g p w hs hm hf)
  have hpl : p.length ≤ 70000 := by
    unfold flt at hf
    have hl := prt_len f.data.toList
    rw [size_len] at hl
    split at hf
    · split at hf
      · simp only [Option.some.injEq, Prod.mk.injEq] at hf
        rw [← hf.2]; omega
      · cases hf
    · cases hf
  have HS := hide (fun w' hm' => split_new (bt p) w' (by rw [bt_size]; exact hpl) hm')
  have HM := hide hm
  have HLV : Hid (bys (lvB (bt p)) = lv f) := by show _ = _; rw [bys_lvB, hlv]; rfl
  have HSZ : Hid (∀ j, j < (lvB (bt p)).length → ((lvB (bt p)).getD j ByteArray.empty).size ≤ 70000) := fun j hj => by
    have k := lvB_size (bt p) j (by rw [lvB_len] at hj; rw [lvl_len]; exact hj)
    rw [bt_size] at k
    omega
  clear hf hm hs hlv
  go_enter Tryz.func22, Tryz.ntmps22
  go_wp2_with fail
  refine (unhide HF).mono ?_
  rintro e w1 ⟨rfl, hb1⟩
  have HB1 := hide hb1
  have HM1 := hide ((unhide HM).up hb1)
  clear hb1
  go_wp2_with fail
  refine ((unhide HS) w1 (unhide HM1)).mono ?_
  rintro e w2 ⟨lb, cap, rfl, HN⟩
  generalize lvB (bt p) = xs at HN HLV HSZ
  obtain ⟨len, hlen⟩ : ∃ len, Hid (xs.length = len) := ⟨_, rfl⟩
  rw [unhide hlen]
  clear HF HS
  go_wp2
  go_returns
  obtain ⟨n1, n2, n3, n4, n5, n6⟩ := unhide HN
  have hb := unhide HB1
  exact ⟨lb, cap, len, xs, rfl, ⟨n1, n2, Nat.le_trans hb.size n3, n4, n5, hb.trans (n6.mono hb.size)⟩, unhide hlen, unhide HLV, unhide HSZ⟩
theorem levels_no (f : ByteArray) (w : World) (hs : f.size ≤ 70000) (hm : Len w) (h : okF f = false) :
    Calls Tryz.prog 22 #[.string f] w fun e w' => ∃ x, e = .returned (.tuple #[.slice none 0 0, .iface 86 x]) ∧ Hid (ErrX w' (.iface 86 x) 5) ∧ Below w.heap.size w w' := by
  have hf : flt f.data.toList = none := by
    unfold okF at h
    cases he : flt f.data.toList with
    | none => rfl
    | some x => rw [he] at h; cases h
  have HF := hide (filter_no f w hs hm hf)
  clear hf hm hs
  go_enter Tryz.func22, Tryz.ntmps22
  go_wp2_with fail
  refine (unhide HF).mono ?_
  rintro e w1 ⟨x, rfl, hx, hb1⟩
  have HB1 := hide hb1
  have HX := hide (er1 (unhide hx))
  clear hb1 hx HF
  go_wp2_with fail
  refine (yfault_any 1 (by decide) _ 5 _ (unhide HX)).mono ?_
  rintro e w2 ⟨y, rfl, hy, hb2⟩
  have HB2 := hide ((unhide HB1).trans (hb2.mono (unhide HB1).size))
  clear hb2 HX HB1
  go_wp2
  go_returns
  exact ⟨y, rfl, hy, unhide HB2⟩

/-! Add -/
theorem add_no {w : World} {T : Nat} (c : ByteArray) (s : Sb) (hs : s.f.size ≤ 70000) (hm : Len w) (h : okF s.f = false) :
    Calls Tryz.prog 16 #[.pointer (some ⟨T, 0, none⟩), .string c, .agg #[.string s.f, .int .i64 s.q, .bool s.nl, .bool s.ap, .int .i64 s.h]] w fun e w' => ∃ x, e = .returned (.tuple #[.bool false, .iface 86 x]) ∧ Hid (ErrX w' (.iface 86 x) 5) ∧ Below w.heap.size w w' := by
  have hB : Below w.heap.size w (w.alloc (.cells #[.string s.f, .int .i64 s.q, .bool s.nl, .bool s.ap, .int .i64 s.h] 28)) := (Below.refl _ _).alloc (Nat.le_refl _) _
  have HL := hide (levels_no s.f _ hs (hm.up hB) h)
  have HB := hide hB
  clear hs hm h hB
  go_enter Tryz.func16, Tryz.ntmps16
  go_wp2_with fail
  refine (unhide HL).mono ?_
  rintro e w1 ⟨x, rfl, hx, hb1⟩
  have HB1 := hide ((unhide HB).trans (hb1.mono (unhide HB).size))
  clear hb1 HL HB
  go_wp2
  go_returns
  exact ⟨x, rfl, hx, unhide HB1⟩
def HadIs (b : Bool) (S : Rw → Prop) (c f : ByteArray) : Prop := b = true ↔ hadS S c f
def AddPost (w : World) (T : Nat) (S : Rw → Prop) (n : Int) (F : Nat → Prop) (M : Nat) (y : Rw) (had : Bool) (w' : World) : Prop := (had = true ↔ hadS S y.c y.s.f) ∧ ∃ F', TR w' T (insS S y) (if had = true then n else n + 1) F' M ∧ Ext F F' w ∧ Fr F w w'
def AddEnd (w : World) (T : Nat) (S : Rw → Prop) (n : Int) (F : Nat → Prop) (M : Nat) (y : Rw) (e : Ending) (w' : World) : Prop := ∃ had, e = .returned (.tuple #[.bool had, .nilIface]) ∧ AddPost w T S n F M y had w'
set_option maxHeartbeats 4000000 in
theorem add_yes {w : World} {T : Nat} {S : Rw → Prop} {n : Int} {F : Nat → Prop} {M : Nat} (c : ByteArray) (s : Sb) (hy : RwOk ⟨c, s⟩) (hm : Len w) (h : TR w T S n F M) (hn : 0 ≤ n ∧ n ≤ 1000000) (hM : M + 33 ≤ 1000000) :
    Calls Tryz.prog 16 #[.pointer (some ⟨T, 0, none⟩), .string c, .agg #[.string s.f, .int .i64 s.q, .bool s.nl, .bool s.ap, .int .i64 s.h]] w (AddEnd w T S n F (M + 33) ⟨c, s⟩) := by
  obtain ⟨w1, HW⟩ : ∃ w1, Hid (w1 = w.alloc (.cells #[.string s.f, .int .i64 s.q, .bool s.nl, .bool s.ap, .int .i64 s.h] 28)) := ⟨_, rfl⟩
  have hb1 : Below w.heap.size w w1 := by rw [unhide HW]; exact (Below.refl _ _).alloc (Nat.le_refl _) _
  have HX : Hid (w1.cell? ⟨w.heap.size, 0, none⟩ = some (.string s.f) ∧ w1.cell? ⟨w.heap.size, 1, none⟩ = some (.int .i64 s.q) ∧ w1.cell? ⟨w.heap.size, 2, none⟩ = some (.bool s.nl) ∧ w1.cell? ⟨w.heap.size, 3, none⟩ = some (.bool s.ap) ∧ w1.cell? ⟨w.heap.size, 4, none⟩ = some (.int .i64 s.h)) := by
    rw [unhide HW]
    refine ⟨?_, ?_, ?_, ?_, ?_⟩ <;> simp
  obtain ⟨G, hT⟩ := h
  have hT1 := hT.below hb1
  have HL : Hid (Calls Tryz.prog 22 #[.string s.f] w1 _) := levels_yes s.f w1 hy.2.1 (hm.up hb1) hy.2.2
  have hlv := lv_ok hy.2.2
  obtain ⟨r, hr, hrT, _⟩ := hT1.root
  have hFX : ∀ k, F k → k < w.heap.size := hT.low
  have HREACH : Hid (∀ w2 lb cap len xs, NewS w1 w2 lb cap xs → xs.length = len → bys xs = lv s.f → (∀ j, j < xs.length → (xs.getD j ByteArray.empty).size ≤ 70000) → ∀ W, Below w2.heap.size w2 W → Calls Tryz.prog 37 #[.pointer (some ⟨T, 0, none⟩), .slice (some ⟨lb, 0, none⟩) len cap] W fun e w' => ∃ nb, e = .returned (.pointer (some ⟨nb, 0, none⟩)) ∧ Hid (GrPost W T S n F (M + 32) (lv s.f) nb w')) := fun w2 lb cap len xs hN hlen hby hsz W hW => by
    obtain ⟨n1, n2, n3, n4, n5, n6⟩ := hN
    have hl32 : len ≤ 32 := by rw [← hlen, ← bys_len, hby]; exact hlv.2.1
    have hTW := (hT1.below n6).below hW
    have k := reach_any lb 0 cap len xs hlen (by omega) (fun e => by have := hFX lb e; have := hb1.size; omega) (fun j hj => bel_w hW (n5 j (by omega))) (fun j hj => hsz j (by omega)) hTW hr (by simp; omega)
    rw [hrT] at k
    refine k.mono ?_
    rintro e w' ⟨nb, rfl, HG⟩
    refine ⟨nb, rfl, ?_⟩
    obtain ⟨G', F', cc, g1, g2, g3, g4, g5⟩ := unhide HG
    rw [List.nil_append, hby] at g2
    exact ⟨G', F', cc, g1.more (by omega), g2, g3, g4, g5⟩
  have HPUT : Hid (∀ W w3 nb, GrPost W T S n F (M + 32) (lv s.f) nb w3 → Calls Tryz.prog 38 #[.pointer (some ⟨nb, 0, none⟩), .agg #[.string c, .string s.f], .agg #[.string s.f, .int .i64 s.q, .bool s.nl, .bool s.ap, .int .i64 s.h]] w3 fun e w' => ∃ had, e = .returned (.bool had) ∧ Hid ((had = true ↔ hadS S c s.f) ∧ ∃ F', TR w' T (insS S ⟨c, s⟩) n F' (M + 33) ∧ Ext F F' W ∧ Fr F W w')) := fun W w3 nb hG => by
    obtain ⟨G', F', cc, g1, g2, g3, g4, g5⟩ := hG
    have k := put_any c s hy (by omega) g1 g2 rfl
    rw [g3] at k
    refine k.mono ?_
    rintro e w' ⟨had, rfl, HP⟩
    obtain ⟨p1, G2, F2, p2, p3, p4⟩ := unhide HP
    exact ⟨had, rfl, p1, F2, ⟨G2, p2⟩, g4.trans p3 g5.size, g5.trans' p4 (fun k hk e => by rcases g4.2 k e with h | h; exact h; omega)⟩
  have HFX : Hid (¬ F w.heap.size) := fun e => absurd (hFX _ e) (Nat.lt_irrefl _)
  have HB1 := hide hb1
  have HN := hide hn
  clear hT hT1 hlv hr hrT hFX hm hy hM hb1 hn
  go_enter Tryz.func16, Tryz.ntmps16
  go_wp2_with fail
  rw [← unhide HW]
  refine (unhide HL).mono ?_
  rintro e w2 ⟨lb, cap, len, xs, rfl, HNW⟩
  clear HW HL
  go_wp2_with fail
  have hb2 := (unhide HNW).1.2.2.2.2.2
  have HX2 : Hid (w2.cell? ⟨w.heap.size, 0, none⟩ = some (.string s.f) ∧ w2.cell? ⟨w.heap.size, 1, none⟩ = some (.int .i64 s.q) ∧ w2.cell? ⟨w.heap.size, 2, none⟩ = some (.bool s.nl) ∧ w2.cell? ⟨w.heap.size, 3, none⟩ = some (.bool s.ap) ∧ w2.cell? ⟨w.heap.size, 4, none⟩ = some (.int .i64 s.h)) := by
    obtain ⟨e0, e1, e2, e3, e4⟩ := unhide HX
    exact ⟨bel_w hb2 e0, bel_w hb2 e1, bel_w hb2 e2, bel_w hb2 e3, bel_w hb2 e4⟩
  have HB2 : Hid (Below w.heap.size w w2) := (unhide HB1).trans (hb2.mono (unhide HB1).size)
  have HRC := hide ((unhide HREACH) w2 lb cap len xs (unhide HNW).1 (unhide HNW).2.1 (unhide HNW).2.2.1 (unhide HNW).2.2.2 w2.drew (below_drewN (Below.refl _ _) 1))
  clear hb2 HREACH HNW HX HB1
  refine wp_region_noPanic ?_
  refine wp_region_held_drew (S := fun W => W.cell? ⟨w.heap.size, 0, none⟩ = some (.string s.f) ∧ W.cell? ⟨w.heap.size, 1, none⟩ = some (.int .i64 s.q) ∧ W.cell? ⟨w.heap.size, 2, none⟩ = some (.bool s.nl) ∧ W.cell? ⟨w.heap.size, 3, none⟩ = some (.bool s.ap) ∧ W.cell? ⟨w.heap.size, 4, none⟩ = some (.int .i64 s.h)) (by kernel_rfl) (unhide HX2) (fun hHeld => ?_)
  refine rtk 0 (h := ?_)
  refine rtk 1 (h := ?_)
  refine rtk 2 (h := ?_)
  refine rtk 3 (h := ?_)
  refine rtk 5 (h := ?_)
  refine rtk 6 (h := ?_)
  refine rtk 7 (h := ?_)
  refine rtk 8 (h := ?_)
  refine rtk 9 (h := ?_)
  refine rcl 4 (h := fun K hK => ?_)
  go_simp
  refine (unhide HRC).mono ?_
  rintro e w3 ⟨nb, rfl, HG3⟩
  have HX3 : Hid (w3.cell? ⟨w.heap.size, 0, none⟩ = some (.string s.f) ∧ w3.cell? ⟨w.heap.size, 1, none⟩ = some (.int .i64 s.q) ∧ w3.cell? ⟨w.heap.size, 2, none⟩ = some (.bool s.nl) ∧ w3.cell? ⟨w.heap.size, 3, none⟩ = some (.bool s.ap) ∧ w3.cell? ⟨w.heap.size, 4, none⟩ = some (.int .i64 s.h)) := by
    obtain ⟨e0, e1, e2, e3, e4⟩ := unhide HX2
    obtain ⟨_, _, _, _, _, _, _, g5⟩ := unhide HG3
    exact ⟨g5.cell (unhide HFX) e0, g5.cell (unhide HFX) e1, g5.cell (unhide HFX) e2, g5.cell (unhide HFX) e3, g5.cell (unhide HFX) e4⟩
  refine hK.out _ _ (unhide HX3) (fun hHeld => ?_)
  clear hK K
  refine rcl 10 (h := fun K hK => ?_)
  go_simp
  refine ((unhide HPUT) _ w3 nb (unhide HG3)).mono ?_
  rintro e w4 ⟨had, rfl, HP4⟩
  obtain ⟨p1, F', p2, p3, p4⟩ := unhide HP4
  have hx4 : w4.cell? ⟨w.heap.size, 0, none⟩ = some (.string s.f) ∧ w4.cell? ⟨w.heap.size, 1, none⟩ = some (.int .i64 s.q) ∧ w4.cell? ⟨w.heap.size, 2, none⟩ = some (.bool s.nl) ∧ w4.cell? ⟨w.heap.size, 3, none⟩ = some (.bool s.ap) ∧ w4.cell? ⟨w.heap.size, 4, none⟩ = some (.int .i64 s.h) := by
    obtain ⟨e0, e1, e2, e3, e4⟩ := unhide HX2
    exact ⟨p4.cell (unhide HFX) e0, p4.cell (unhide HFX) e1, p4.cell (unhide HFX) e2, p4.cell (unhide HFX) e3, p4.cell (unhide HFX) e4⟩
  have HFR : Hid (Fr F w w4) := (Fr.of_below (unhide HB2)).trans ((Fr.drewN F w2 1).trans p4)
  have HEX : Hid (Ext F F' w) := ⟨p3.1, fun k hk => (p3.2 k hk).imp id (fun e => by have := (unhide HB2).size; have e' : w2.drew.heap.size ≤ k := e; exact Nat.le_trans this e')⟩
  have HTR := hide p2
  have HHAD : Hid (HadIs had S c s.f) := p1
  refine hK.out _ _ hx4 (fun hHeld => ?_)
  clear hK K p1 p2 p3 p4 hx4 HP4 HG3 HX3 HX2 HPUT HRC HB2
  refine rtk 11 (h := ?_)
  refine wpAnyH_done (by kernel_rfl) ?_ _
  refine NoPanic.normal ?_
  cases had with
  | true =>
    go_wp2
    go_returns
    exact ⟨true, rfl, unhide HHAD, F', by rw [if_pos rfl]; exact unhide HTR, unhide HEX, unhide HFR⟩
  | false =>
    obtain ⟨hc2, hf2⟩ : w4.cell? ⟨T, 2, none⟩ = some (.int .i64 n) ∧ w4.frozen? ⟨T, 2, none⟩ = false := by
      obtain ⟨G4, h4⟩ := unhide HTR
      obtain ⟨_, _, _, _, e1, e2, _⟩ := h4.cnt
      exact ⟨e1, e2⟩
    have HST := hide (set_cnt (unhide HTR) (n + 1))
    obtain ⟨hn0, hn1⟩ := unhide HN
    clear HN HTR
    go_wp2
    go_returns
    refine ⟨false, rfl, unhide HHAD, F', by rw [if_neg (by decide)]; exact (unhide HST).1, unhide HEX, (unhide HFR).trans' (unhide HST).2 (fun k hk e => ?_)⟩
    rcases (unhide HEX).2 k e with h | h
    · exact h
    · omega
end Go.Proofs.YtdjpllmgjmnolaaGreatDoor.Y
