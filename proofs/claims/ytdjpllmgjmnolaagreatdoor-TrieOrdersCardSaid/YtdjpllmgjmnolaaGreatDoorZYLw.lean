/- Proved here: what the statements of layer 7 share: before, find, same, the page's Hits, Within, num and heavy. Helper contracts. -/
import Derived.Test.YtdjpllmgjmnolaaGreatDoorZYRm
import Derived.Test.YtdjpllmgjmnolaaGreatDoorZQRef3
import Derived.Laws.StructEq
namespace Go.Proofs.YtdjpllmgjmnolaaGreatDoor.Y
open Go.RowKit Go.Maps
set_option maxRecDepth 100000

theorem bless : ∀ (x y : List UInt8), Op.bytesLess x y = decide (Lib.compareBytes x y < 0)
  | [], [] => by simp [Op.bytesLess, Lib.compareBytes]
  | _ :: _, [] => by simp [Op.bytesLess, Lib.compareBytes]
  | [], _ :: _ => by simp [Op.bytesLess, Lib.compareBytes]
  | a :: x, b :: y => by
    rw [Op.bytesLess, bless x y, Lib.compareBytes]
    by_cases h1 : a < b
    · simp [h1]
    · by_cases h2 : b < a
      · have h3 : a ≠ b := by rintro rfl; exact h1 h2
        simp [h1, h2, h3]
      · have h3 : a = b := by
          rw [UInt8.lt_iff_toNat_lt] at h1 h2
          exact UInt8.toNat_inj.1 (by omega)
        simp [h3]
theorem bless_ba (a b : ByteArray) : Op.bytesLess a.toList b.toList = decide (cmpB a b < 0) := by rw [bless, Lib.toList_data, Lib.toList_data]
theorem beq_ba (a b : ByteArray) : (a.toList == b.toList) = decide (a = b) := by
  rw [Lib.toList_data, Lib.toList_data, Bool.eq_iff_iff, beq_iff_eq, decide_eq_true_eq]
  constructor
  · intro h; rw [← bt_of a, ← bt_of b, h]
  · rintro rfl; rfl
abbrev rv (r : Rw) : Value := .agg #[.string r.c, .string r.s.f, .int .i64 r.s.q, .bool r.s.nl, .bool r.s.ap, .int .i64 r.s.h]
abbrev rO (r : Rw) : Obj := .cells #[.string r.c, .string r.s.f, .int .i64 r.s.q, .bool r.s.nl, .bool r.s.ap, .int .i64 r.s.h] 37
set_option maxHeartbeats 2000000 in
theorem before_any (a b : Rw) (w : World) : Calls Tryz.prog 21 #[rv a, rv b] w fun e w' => e = .returned (.bool (decide (lt a b))) ∧ Below w.heap.size w w' := by
  have hB : Hid (Below w.heap.size w ((w.alloc (rO a)).alloc (rO b))) := ((Below.refl _ _).alloc (Nat.le_refl _) _).alloc (by simp) _
  have q1 := bless_ba a.c b.c
  have q2 := beq_ba a.c b.c
  have q3 := bless_ba a.s.f b.s.f
  by_cases h1 : cmpB a.c b.c < 0
  · have HR : Hid (decide (lt a b) = true) := decide_eq_true (by unfold lt cf; rw [if_neg (by omega)]; exact h1)
    rw [decide_eq_true h1] at q1
    clear h1 q2 q3
    go_enter Tryz.func21, Tryz.ntmps21
    go_wp2
    go_returns
    exact ⟨by rw [unhide HR]; rfl, unhide hB⟩
  · rw [decide_eq_false h1] at q1
    by_cases h2 : a.c = b.c
    · have HR : Hid (decide (lt a b) = decide (cmpB a.s.f b.s.f < 0)) := by
        show decide (lt a b) = _
        rw [Bool.eq_iff_iff, decide_eq_true_eq, decide_eq_true_eq]
        unfold lt cf
        rw [if_pos ((cmpB_zero _ _).2 h2)]
      rw [decide_eq_true h2] at q2
      clear h1
      cases h3 : decide (cmpB a.s.f b.s.f < 0)
      · rw [h3] at q3 HR
        clear h2 h3
        go_enter Tryz.func21, Tryz.ntmps21
        go_wp2
        go_returns
        exact ⟨by rw [unhide HR]; rfl, unhide hB⟩
      · rw [h3] at q3 HR
        clear h2 h3
        go_enter Tryz.func21, Tryz.ntmps21
        go_wp2
        go_returns
        exact ⟨by rw [unhide HR]; rfl, unhide hB⟩
    · have HR : Hid (decide (lt a b) = false) := decide_eq_false (by unfold lt cf; rw [if_neg (fun e => h2 ((cmpB_zero _ _).1 e))]; exact h1)
      rw [decide_eq_false h2] at q2
      clear h1 h2 q3
      go_enter Tryz.func21, Tryz.ntmps21
      go_wp2
      go_returns
      exact ⟨by rw [unhide HR]; rfl, unhide hB⟩
/-- a row's cells -/
def RwAt (w : World) (g off : Nat) (r : Rw) : Prop := w.cell? ⟨g, off, none⟩ = some (.string r.c) ∧ w.cell? ⟨g, off + 1, none⟩ = some (.string r.s.f) ∧ w.cell? ⟨g, off + 2, none⟩ = some (.int .i64 r.s.q) ∧ w.cell? ⟨g, off + 3, none⟩ = some (.bool r.s.nl) ∧ w.cell? ⟨g, off + 4, none⟩ = some (.bool r.s.ap) ∧ w.cell? ⟨g, off + 5, none⟩ = some (.int .i64 r.s.h)
theorem RwAt.bel {w w' : World} {g off : Nat} {r : Rw} (h : RwAt w g off r) (hb : Below w.heap.size w w') : RwAt w' g off r := ⟨bel_w hb h.1, bel_w hb h.2.1, bel_w hb h.2.2.1, bel_w hb h.2.2.2.1, bel_w hb h.2.2.2.2.1, bel_w hb h.2.2.2.2.2⟩
/-- a value that reads as rows -/
def RowsIn (w : World) (v : Value) (L : List Rw) : Prop := ∃ ao cap, v = .slice ao L.length cap ∧ (L.length ≤ cap ∧ cap ≤ maxLen) ∧ ((ao = none ∧ L = [] ∧ cap = 0) ∨ ∃ g off, ao = some ⟨g, off, none⟩ ∧ ∀ k, k < L.length → RwAt w g (off + k * 6) (L.getD k default))
theorem RowsIn.bel {w w' : World} {v : Value} {L : List Rw} (h : RowsIn w v L) (hb : Below w.heap.size w w') : RowsIn w' v L := by
  obtain ⟨ao, cap, h1, h2, h3⟩ := h
  refine ⟨ao, cap, h1, h2, ?_⟩
  rcases h3 with h3 | ⟨g, off, e, hc⟩
  · exact .inl h3
  · exact .inr ⟨g, off, e, fun k hk => (hc k hk).bel hb⟩
theorem rows_in {w : World} {B : Nat} {v : Value} {n : Nat} {L : List Rw} (hn : L.length = n) (h : w.ownsRow B 37 6 v n (hrow L)) : RowsIn w v L := by
  subst hn
  rcases h.2 with ⟨e, h1⟩ | ⟨g, cap, cur, e, hB, hg, h1, h2, _⟩
  · subst e
    have : L = [] := List.length_eq_zero_iff.1 h1
    subst this
    exact ⟨none, 0, rfl, ⟨Nat.le_refl _, Nat.zero_le _⟩, .inl ⟨rfl, rfl, rfl⟩⟩
  · subst e
    refine ⟨_, cap, rfl, ⟨h1, h2⟩, .inr ⟨g, 0, rfl, fun k hk => ?_⟩⟩
    have key : ∀ j, j < 6 → w.cell? ⟨g, 0 + k * 6 + j, none⟩ = some ((rcs (L.getD k default))[j]!) := fun j hj => by
      rw [Nat.zero_add, h.cellAt (k * 6 + j) (by omega), hrow_get L (k * 6 + j) (by omega), show (k * 6 + j) / 6 = k from by omega, show (k * 6 + j) % 6 = j from by omega]
    exact ⟨key 0 (by omega), key 1 (by omega), key 2 (by omega), key 3 (by omega), key 4 (by omega), key 5 (by omega)⟩
/-- the row that is looked for -/
abbrev fr0 (c f : ByteArray) : Rw := ⟨c, ⟨f, 0, false, false, 0⟩⟩
def FindIs (L : List Rw) (c f : ByteArray) (k : Nat) (there : Bool) : Prop := k ≤ L.length ∧ (∀ j, j < k → lt (L.getD j default) (fr0 c f)) ∧ (k < L.length → ¬ lt (L.getD k default) (fr0 c f)) ∧ (there = true ↔ k < L.length ∧ (L.getD k default).c = c ∧ (L.getD k default).s.f = f)
def FindEnd (w : World) (L : List Rw) (c f : ByteArray) (e : Ending) (w' : World) : Prop := ∃ k there, e = .returned (.tuple #[.int .i64 (k : Nat), .bool there]) ∧ Hid (FindIs L c f k there) ∧ Below w.heap.size w w'
set_option maxHeartbeats 1000000 in
theorem find_nil (ao : Option Addr) (cap : Nat) (c f : ByteArray) (w : World) : Calls Tryz.prog 7 #[.slice ao 0 cap, .string c, .string f] w (FindEnd w [] c f) := by
  have HB : Hid (Below w.heap.size w (w.alloc (rO (fr0 c f)))) := (Below.refl _ _).alloc (Nat.le_refl _) _
  go_enter Tryz.func7, Tryz.ntmps7
  go_wp2
  refine wp_loop_rounds 1 ?_
  rw [rounds_succ]
  go_wp2_with fail
  refine wp_region_noPanic ?_
  refine wp_region_held_drew (S := fun _ => True) (by kernel_rfl) trivial (fun hHeld => ?_)
  refine rtk 0 (h := ?_)
  refine rtk 1 (h := ?_)
  refine rtk 2 (h := ?_)
  refine rtk 3 (h := ?_)
  refine rtk 4 (h := ?_)
  refine rsk 5 (h := ?_)
  refine rsk 6 (h := ?_)
  refine rsk 7 (h := ?_)
  refine rsk 8 (h := ?_)
  refine rsk 9 (h := ?_)
  refine rsk 10 (h := ?_)
  refine rtk 11 (h := ?_)
  refine wpAnyH_done (by kernel_rfl) ?_ _
  refine NoPanic.normal ?_
  go_wp2_with fail
  refine wp_region_noPanic ?_
  refine wp_region_held_drew (S := fun _ => True) (by kernel_rfl) trivial (fun hHeld => ?_)
  refine rtk 0 (h := ?_)
  refine rtk 1 (h := ?_)
  refine rtk 2 (h := ?_)
  refine rtk 3 (h := ?_)
  refine rtk 4 (h := ?_)
  refine rtk 5 (h := ?_)
  refine rsk 6 (h := ?_)
  refine rsk 7 (h := ?_)
  refine rsk 8 (h := ?_)
  refine rsk 9 (h := ?_)
  refine rsk 10 (h := ?_)
  refine rsk 11 (h := ?_)
  refine rsk 12 (h := ?_)
  refine rtk 13 (h := ?_)
  refine rtk 14 (h := ?_)
  refine rsk 15 (h := ?_)
  refine rsk 16 (h := ?_)
  refine rsk 17 (h := ?_)
  refine rsk 18 (h := ?_)
  refine rsk 19 (h := ?_)
  refine rsk 20 (h := ?_)
  refine rsk 21 (h := ?_)
  refine rsk 22 (h := ?_)
  refine rtk 23 (h := ?_)
  refine rtk 24 (h := ?_)
  refine rtk 25 (h := ?_)
  refine wpAnyH_done (by kernel_rfl) ?_ _
  refine NoPanic.normal ?_
  go_wp2
  go_returns
  exact ⟨0, false, rfl, ⟨Nat.le_refl _, fun j hj => absurd hj (Nat.not_lt_zero _), fun h => absurd h (Nat.not_lt_zero _), ⟨(fun e => by cases e), fun e => absurd e.1 (Nat.not_lt_zero _)⟩⟩, below_drewN (below_drewN (unhide HB) 1) 1⟩
set_option maxHeartbeats 8000000 in
theorem find_cons (g off n cap : Nat) (L : List Rw) (c f : ByteArray) (w : World) (hn : L.length = n) (hmx : n ≤ 1000000) (hL : ∀ k, k < n → RwAt w g (off + k * 6) (L.getD k default)) : Calls Tryz.prog 7 #[.slice (some ⟨g, off, none⟩) n cap, .string c, .string f] w (FindEnd w L c f) := by
  obtain ⟨w1, HW⟩ : ∃ w1, Hid (w1 = w.alloc (rO (fr0 c f))) := ⟨_, rfl⟩
  have hb1 : Below w.heap.size w w1 := by rw [unhide HW]; exact (Below.refl _ _).alloc (Nat.le_refl _) _
  have HX : Hid (∀ W, Below w1.heap.size w1 W → W.cell? ⟨w.heap.size, 0, none⟩ = some (.string c) ∧ W.cell? ⟨w.heap.size, 1, none⟩ = some (.string f) ∧ W.cell? ⟨w.heap.size, 2, none⟩ = some (.int .i64 0) ∧ W.cell? ⟨w.heap.size, 3, none⟩ = some (.bool false) ∧ W.cell? ⟨w.heap.size, 4, none⟩ = some (.bool false) ∧ W.cell? ⟨w.heap.size, 5, none⟩ = some (.int .i64 0)) := by
    have hx : ∀ W, W = w1 → W.cell? ⟨w.heap.size, 0, none⟩ = some (.string c) ∧ W.cell? ⟨w.heap.size, 1, none⟩ = some (.string f) ∧ W.cell? ⟨w.heap.size, 2, none⟩ = some (.int .i64 0) ∧ W.cell? ⟨w.heap.size, 3, none⟩ = some (.bool false) ∧ W.cell? ⟨w.heap.size, 4, none⟩ = some (.bool false) ∧ W.cell? ⟨w.heap.size, 5, none⟩ = some (.int .i64 0) := fun W e => by
      rw [e, unhide HW]
      refine ⟨?_, ?_, ?_, ?_, ?_, ?_⟩ <;> simp
    intro W hW
    obtain ⟨e0, e1, e2, e3, e4, e5⟩ := hx w1 rfl
    exact ⟨bel_w hW e0, bel_w hW e1, bel_w hW e2, bel_w hW e3, bel_w hW e4, bel_w hW e5⟩
  have HU : Hid (∀ W k, k < n → Below w1.heap.size w1 W → RwAt W g (off + k * 6) (L.getD k default)) := fun W k hk hW => (hL k hk).bel (hb1.trans (hW.mono hb1.size))
  have HB1 := hide hb1
  have HLN := hide hn
  clear hb1 hL hn
  go_enter Tryz.func7, Tryz.ntmps7
  go_wp2
  rw [← unhide HW]
  clear HW
  go_loopw [9] (fun i wr => ∃ k : Nat, k ≤ n ∧ i = .int .i64 k ∧ Hid (∀ j, j < k → lt (L.getD j default) (fr0 c f)) ∧ Hid (Below w1.heap.size w1 wr)) (fun i _ => n - (intOf i).toNat)
  case atStart => exact ⟨0, Nat.zero_le _, rfl, fun j hj => absurd hj (Nat.not_lt_zero _), Below.refl _ _⟩
  case round =>
    obtain ⟨k, hk, rfl, HLT, HBW⟩ := hrel
    by_cases hlt : k < n
    · have hu := (unhide HU) wr k hlt (unhide HBW)
      have HUU := hide (fun W hW => (unhide HU) W k hlt hW)
      have HU1 := hide hu
      obtain ⟨u, hue⟩ : ∃ u, Hid (L.getD k default = u) := ⟨_, rfl⟩
      rw [unhide hue] at HU1 HUU hu
      have HX1 := hide ((unhide HX) wr (unhide HBW))
      clear hu
      go_wp2_with fail
      refine wp_region_noPanic ?_
      refine wp_region_held_drew (S := fun W => (W.cell? ⟨g, off + k * 6, none⟩ = some (.string u.c) ∧ W.cell? ⟨g, off + k * 6 + 1, none⟩ = some (.string u.s.f) ∧ W.cell? ⟨g, off + k * 6 + 2, none⟩ = some (.int .i64 u.s.q) ∧ W.cell? ⟨g, off + k * 6 + 3, none⟩ = some (.bool u.s.nl) ∧ W.cell? ⟨g, off + k * 6 + 4, none⟩ = some (.bool u.s.ap) ∧ W.cell? ⟨g, off + k * 6 + 5, none⟩ = some (.int .i64 u.s.h)) ∧ (W.cell? ⟨w.heap.size, 0, none⟩ = some (.string c) ∧ W.cell? ⟨w.heap.size, 1, none⟩ = some (.string f) ∧ W.cell? ⟨w.heap.size, 2, none⟩ = some (.int .i64 0) ∧ W.cell? ⟨w.heap.size, 3, none⟩ = some (.bool false) ∧ W.cell? ⟨w.heap.size, 4, none⟩ = some (.bool false) ∧ W.cell? ⟨w.heap.size, 5, none⟩ = some (.int .i64 0))) (by kernel_rfl) ⟨unhide HU1, unhide HX1⟩ (fun hHeld => ?_)
      refine rtk 0 (h := ?_)
      refine rtk 1 (h := ?_)
      refine rtk 2 (h := ?_)
      refine rtk 3 (h := ?_)
      refine rtk 4 (h := ?_)
      refine rtk 5 (h := ?_)
      refine rtk 6 (h := ?_)
      refine rtk 7 (h := ?_)
      refine rtk 8 (h := ?_)
      refine rtk 9 (h := ?_)
      refine rcl 10 (h := fun K hK => ?_)
      go_simp
      refine (before_any u (fr0 c f) _).mono ?_
      rintro e w2 ⟨rfl, hb2⟩
      have HB2 : Hid (Below w1.heap.size w1 w2) := (below_drewN (unhide HBW) 1).trans (hb2.mono (unhide HBW).size)
      refine hK.out _ _ ⟨(unhide HUU) w2 (unhide HB2), (unhide HX) w2 (unhide HB2)⟩ (fun hHeld => ?_)
      clear hK K hb2
      refine rtk 11 (h := ?_)
      refine wpAnyH_done (by kernel_rfl) ?_ _
      refine NoPanic.normal ?_
      by_cases hl : lt u (fr0 c f)
      · rw [decide_eq_true hl]
        have HL2 : Hid (∀ j, j < k + 1 → lt (L.getD j default) (fr0 c f)) := fun j hj => by
          rcases Nat.lt_succ_iff_lt_or_eq.1 hj with h | h
          · exact (unhide HLT) j h
          · rw [h, unhide hue]; exact hl
        clear hl HLT HU1 HX1 HUU
        go_wp2
        go_roundw
        case rel => exact ⟨k + 1, by omega, by go_num, HL2, HB2⟩
        case measure => simp [intOf]; omega
      · rw [decide_eq_false hl]
        have HNL := hide hl
        have HU1 := hide ((unhide HUU) w2 (unhide HB2))
        clear hl HX1 HUU
        have q1 := beq_ba u.c c
        have q2 := beq_ba u.s.f f
        have HE : Hid (∀ there, (there = true ↔ u.c = c ∧ u.s.f = f) → FindIs L c f k there) := fun there ht => ⟨by rw [unhide HLN]; exact hk, unhide HLT, fun _ => by rw [unhide hue]; exact unhide HNL, by rw [unhide HLN, unhide hue]; exact ⟨fun e => ⟨hlt, ht.1 e⟩, fun e => ht.2 e.2⟩⟩
        have HBE : Hid (Below w.heap.size w w2.drew) := below_drewN ((unhide HB1).trans ((unhide HB2).mono (unhide HB1).size)) 1
        by_cases h1 : u.c = c
        · rw [decide_eq_true h1] at q1
          by_cases h2 : u.s.f = f
          · rw [decide_eq_true h2] at q2
            have HF := hide ((unhide HE) true ⟨fun _ => ⟨h1, h2⟩, fun _ => rfl⟩)
            clear h1 h2 HE
            go_wp2_with fail
            refine wp_region_noPanic ?_
            refine wp_region_held_drew (S := fun W => W.cell? ⟨g, off + k * 6, none⟩ = some (.string u.c) ∧ W.cell? ⟨g, off + k * 6 + 1, none⟩ = some (.string u.s.f) ∧ W.cell? ⟨g, off + k * 6 + 2, none⟩ = some (.int .i64 u.s.q) ∧ W.cell? ⟨g, off + k * 6 + 3, none⟩ = some (.bool u.s.nl) ∧ W.cell? ⟨g, off + k * 6 + 4, none⟩ = some (.bool u.s.ap) ∧ W.cell? ⟨g, off + k * 6 + 5, none⟩ = some (.int .i64 u.s.h)) (by kernel_rfl) (unhide HU1) (fun hHeld => ?_)
            refine rtk 0 (h := ?_)
            refine rtk 1 (h := ?_)
            refine rtk 2 (h := ?_)
            refine rtk 3 (h := ?_)
            refine rtk 4 (h := ?_)
            refine rtk 5 (h := ?_)
            refine rtk 6 (h := ?_)
            refine rtk 7 (h := ?_)
            refine rtk 8 (h := ?_)
            refine rtk 9 (h := ?_)
            refine rtk 10 (h := ?_)
            refine rtk 11 (h := ?_)
            refine rtk 12 (h := ?_)
            refine rtk 13 (h := ?_)
            refine rtk 14 (h := ?_)
            refine rtk 15 (h := ?_)
            refine rtk 16 (h := ?_)
            refine rtk 17 (h := ?_)
            refine rtk 18 (h := ?_)
            refine rtk 19 (h := ?_)
            refine rtk 20 (h := ?_)
            refine rtk 21 (h := ?_)
            refine rtk 22 (h := ?_)
            refine rtk 23 (h := ?_)
            refine rtk 24 (h := ?_)
            refine rtk 25 (h := ?_)
            refine wpAnyH_done (by kernel_rfl) ?_ _
            refine NoPanic.normal ?_
            go_wp2
            go_returns
            exact ⟨k, true, rfl, HF, unhide HBE⟩
          · rw [decide_eq_false h2] at q2
            have HF := hide ((unhide HE) false ⟨(fun e => by cases e), fun e => absurd e.2 h2⟩)
            clear h1 h2 HE
            go_wp2_with fail
            refine wp_region_noPanic ?_
            refine wp_region_held_drew (S := fun W => W.cell? ⟨g, off + k * 6, none⟩ = some (.string u.c) ∧ W.cell? ⟨g, off + k * 6 + 1, none⟩ = some (.string u.s.f) ∧ W.cell? ⟨g, off + k * 6 + 2, none⟩ = some (.int .i64 u.s.q) ∧ W.cell? ⟨g, off + k * 6 + 3, none⟩ = some (.bool u.s.nl) ∧ W.cell? ⟨g, off + k * 6 + 4, none⟩ = some (.bool u.s.ap) ∧ W.cell? ⟨g, off + k * 6 + 5, none⟩ = some (.int .i64 u.s.h)) (by kernel_rfl) (unhide HU1) (fun hHeld => ?_)
            refine rtk 0 (h := ?_)
            refine rtk 1 (h := ?_)
            refine rtk 2 (h := ?_)
            refine rtk 3 (h := ?_)
            refine rtk 4 (h := ?_)
            refine rtk 5 (h := ?_)
            refine rtk 6 (h := ?_)
            refine rtk 7 (h := ?_)
            refine rtk 8 (h := ?_)
            refine rtk 9 (h := ?_)
            refine rtk 10 (h := ?_)
            refine rtk 11 (h := ?_)
            refine rtk 12 (h := ?_)
            refine rtk 13 (h := ?_)
            refine rtk 14 (h := ?_)
            refine rtk 15 (h := ?_)
            refine rtk 16 (h := ?_)
            refine rtk 17 (h := ?_)
            refine rtk 18 (h := ?_)
            refine rtk 19 (h := ?_)
            refine rtk 20 (h := ?_)
            refine rtk 21 (h := ?_)
            refine rtk 22 (h := ?_)
            refine rtk 23 (h := ?_)
            refine rtk 24 (h := ?_)
            refine rtk 25 (h := ?_)
            refine wpAnyH_done (by kernel_rfl) ?_ _
            refine NoPanic.normal ?_
            go_wp2
            go_returns
            exact ⟨k, false, rfl, HF, unhide HBE⟩
        · rw [decide_eq_false h1] at q1
          have HF := hide ((unhide HE) false ⟨(fun e => by cases e), fun e => absurd e.1 h1⟩)
          clear h1 HE q2
          go_wp2_with fail
          refine wp_region_noPanic ?_
          refine wp_region_held_drew (S := fun W => W.cell? ⟨g, off + k * 6, none⟩ = some (.string u.c) ∧ W.cell? ⟨g, off + k * 6 + 1, none⟩ = some (.string u.s.f) ∧ W.cell? ⟨g, off + k * 6 + 2, none⟩ = some (.int .i64 u.s.q) ∧ W.cell? ⟨g, off + k * 6 + 3, none⟩ = some (.bool u.s.nl) ∧ W.cell? ⟨g, off + k * 6 + 4, none⟩ = some (.bool u.s.ap) ∧ W.cell? ⟨g, off + k * 6 + 5, none⟩ = some (.int .i64 u.s.h)) (by kernel_rfl) (unhide HU1) (fun hHeld => ?_)
          refine rtk 0 (h := ?_)
          refine rtk 1 (h := ?_)
          refine rtk 2 (h := ?_)
          refine rtk 3 (h := ?_)
          refine rtk 4 (h := ?_)
          refine rtk 5 (h := ?_)
          refine rtk 6 (h := ?_)
          refine rtk 7 (h := ?_)
          refine rtk 8 (h := ?_)
          refine rtk 9 (h := ?_)
          refine rtk 10 (h := ?_)
          refine rtk 11 (h := ?_)
          refine rtk 12 (h := ?_)
          refine rtk 13 (h := ?_)
          refine rtk 14 (h := ?_)
          refine rsk 15 (h := ?_)
          refine rsk 16 (h := ?_)
          refine rsk 17 (h := ?_)
          refine rsk 18 (h := ?_)
          refine rsk 19 (h := ?_)
          refine rsk 20 (h := ?_)
          refine rsk 21 (h := ?_)
          refine rsk 22 (h := ?_)
          refine rtk 23 (h := ?_)
          refine rtk 24 (h := ?_)
          refine rtk 25 (h := ?_)
          refine wpAnyH_done (by kernel_rfl) ?_ _
          refine NoPanic.normal ?_
          go_wp2
          go_returns
          exact ⟨k, false, rfl, HF, unhide HBE⟩
    · obtain rfl : k = n := by omega
      have HF : Hid (FindIs L c f k false) := ⟨by rw [unhide HLN]; exact Nat.le_refl _, unhide HLT, fun h => absurd h (by rw [unhide HLN]; exact Nat.lt_irrefl _), ⟨(fun e => by cases e), fun e => absurd e.1 (by rw [unhide HLN]; exact Nat.lt_irrefl _)⟩⟩
      have HBE : Hid (Below w.heap.size w wr.drew.drew) := below_drewN (below_drewN ((unhide HB1).trans ((unhide HBW).mono (unhide HB1).size)) 1) 1
      go_wp2_with fail
      refine wp_region_noPanic ?_
      refine wp_region_held_drew (S := fun _ => True) (by kernel_rfl) trivial (fun hHeld => ?_)
      refine rtk 0 (h := ?_)
      refine rtk 1 (h := ?_)
      refine rtk 2 (h := ?_)
      refine rtk 3 (h := ?_)
      refine rtk 4 (h := ?_)
      refine rsk 5 (h := ?_)
      refine rsk 6 (h := ?_)
      refine rsk 7 (h := ?_)
      refine rsk 8 (h := ?_)
      refine rsk 9 (h := ?_)
      refine rsk 10 (h := ?_)
      refine rtk 11 (h := ?_)
      refine wpAnyH_done (by kernel_rfl) ?_ _
      refine NoPanic.normal ?_
      go_wp2_with fail
      refine wp_region_noPanic ?_
      refine wp_region_held_drew (S := fun _ => True) (by kernel_rfl) trivial (fun hHeld => ?_)
      refine rtk 0 (h := ?_)
      refine rtk 1 (h := ?_)
      refine rtk 2 (h := ?_)
      refine rtk 3 (h := ?_)
      refine rtk 4 (h := ?_)
      refine rtk 5 (h := ?_)
      refine rsk 6 (h := ?_)
      refine rsk 7 (h := ?_)
      refine rsk 8 (h := ?_)
      refine rsk 9 (h := ?_)
      refine rsk 10 (h := ?_)
      refine rsk 11 (h := ?_)
      refine rsk 12 (h := ?_)
      refine rtk 13 (h := ?_)
      refine rtk 14 (h := ?_)
      refine rsk 15 (h := ?_)
      refine rsk 16 (h := ?_)
      refine rsk 17 (h := ?_)
      refine rsk 18 (h := ?_)
      refine rsk 19 (h := ?_)
      refine rsk 20 (h := ?_)
      refine rsk 21 (h := ?_)
      refine rsk 22 (h := ?_)
      refine rtk 23 (h := ?_)
      refine rtk 24 (h := ?_)
      refine rtk 25 (h := ?_)
      refine wpAnyH_done (by kernel_rfl) ?_ _
      refine NoPanic.normal ?_
      go_wp2
      go_returns
      exact ⟨k, false, rfl, HF, unhide HBE⟩
theorem find_any (v : Value) (L : List Rw) (c f : ByteArray) (w : World) (hmx : L.length ≤ 1000000) (h : RowsIn w v L) : Calls Tryz.prog 7 #[v, .string c, .string f] w (FindEnd w L c f) := by
  obtain ⟨ao, cap, rfl, _, h3⟩ := h
  rcases h3 with ⟨rfl, rfl, _⟩ | ⟨g, off, rfl, hc⟩
  · exact find_nil none cap c f w
  · exact find_cons g off L.length cap L c f w rfl hmx hc
end Go.Proofs.YtdjpllmgjmnolaaGreatDoor.Y
