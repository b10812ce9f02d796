/- Proved here: helpers, one text behind the other. -/
import Derived.Test.YtdjpllmgjmnolaaGreatDoorM2
/- Proved here: two indexes side by side: what Add and Remove make of them, and of the rows that they hold. Helper laws. -/
namespace Go.Proofs.YtdjpllmgjmnolaaGreatDoor.Y
open Go.RowKit Go.Maps
set_option maxRecDepth 100000

theorem find_ex (c f : ByteArray) : ∀ R : List Rw, ∃ k there, FindIs R c f k there
  | [] => ⟨0, false, Nat.le_refl _, fun j hj => absurd hj (Nat.not_lt_zero _), fun h => absurd h (Nat.not_lt_zero _), by simp⟩
  | x :: R => by
    by_cases hx : lt x (fr0 c f)
    · obtain ⟨k, there, h1, h2, h3, h4⟩ := find_ex c f R
      refine ⟨k + 1, there, by simp; omega, fun j hj => ?_, fun h => ?_, ?_⟩
      · cases j with
        | zero => exact hx
        | succ j => exact h2 j (by omega)
      · exact h3 (by simp at h; omega)
      · rw [h4]
        simp
    · by_cases he : x.c = c ∧ x.s.f = f
      · exact ⟨0, true, Nat.zero_le _, fun j hj => absurd hj (Nat.not_lt_zero _), fun _ => hx, by simp; exact he⟩
      · exact ⟨0, false, Nat.zero_le _, fun j hj => absurd hj (Nat.not_lt_zero _), fun _ => hx, by simp; exact fun h1 h2 => he ⟨h1, h2⟩⟩
theorem put_list {R : List Rw} (hs : Srt R) (y : Rw) : ∃ R', Srt R' ∧ (fun x => x ∈ R') = insS (fun x => x ∈ R) y ∧ (hadS (fun x => x ∈ R) y.c y.s.f → R'.length = R.length) ∧ (¬ hadS (fun x => x ∈ R) y.c y.s.f → R'.length = R.length + 1) := by
  obtain ⟨k, there, h⟩ := find_ex y.c y.s.f R
  have hh := find_had hs h
  cases there with
  | true =>
    obtain ⟨d1, d2, d3⟩ := rep_is hs h
    exact ⟨_, d1, d2, fun _ => d3, fun e => absurd (hh.1 rfl) e⟩
  | false =>
    obtain ⟨d1, d2, d3⟩ := ins_is hs h
    exact ⟨_, d1, d2, fun e => (by have := hh.2 e; cases this), fun _ => d3⟩
theorem cut_list {R : List Rw} (hs : Srt R) (c f : ByteArray) : ∃ R', Srt R' ∧ (fun x => x ∈ R') = delS (fun x => x ∈ R) c f ∧ (hadS (fun x => x ∈ R) c f → R'.length + 1 = R.length) ∧ (¬ hadS (fun x => x ∈ R) c f → R'.length = R.length) := by
  obtain ⟨k, there, h⟩ := find_ex c f R
  have hh := find_had hs h
  cases there with
  | true =>
    obtain ⟨d1, d2, d3⟩ := del_is hs h
    exact ⟨_, d1, d2, fun _ => d3, fun e => absurd (hh.1 rfl) e⟩
  | false =>
    have hno : ¬ hadS (fun x => x ∈ R) c f := fun e => by have := hh.2 e; cases this
    exact ⟨R, hs, (delS_not hno).symm, fun e => absurd e hno, fun _ => rfl⟩
/-- two indexes and the lists beside them -/
structure LO (w wr : World) (T1 T2 : Nat) (R1 R2 : List Rw) (F1 F2 : Nat → Prop) (M : Nat) : Prop where
  t1 : TR wr T1 (fun x => x ∈ R1) R1.length F1 M
  t2 : TR wr T2 (fun x => x ∈ R2) R2.length F2 M
  s1 : Srt R1
  s2 : Srt R2
  l1 : ∀ k, F1 k → w.heap.size ≤ k
  l2 : ∀ k, F2 k → w.heap.size ≤ k
  dis : ∀ k, F1 k → ¬ F2 k
  bel : Below w.heap.size w wr
theorem LO.swap {w wr : World} {T1 T2 : Nat} {R1 R2 : List Rw} {F1 F2 : Nat → Prop} {M : Nat} (h : LO w wr T1 T2 R1 R2 F1 F2 M) : LO w wr T2 T1 R2 R1 F2 F1 M :=
  ⟨h.t2, h.t1, h.s2, h.s1, h.l2, h.l1, fun k h2 h1 => h.dis k h1 h2, h.bel⟩
theorem LO.bel2 {w wr w2 : World} {T1 T2 : Nat} {R1 R2 : List Rw} {F1 F2 : Nat → Prop} {M : Nat} (h : LO w wr T1 T2 R1 R2 F1 F2 M) (hb : Below wr.heap.size wr w2) : LO w w2 T1 T2 R1 R2 F1 F2 M :=
  ⟨h.t1.below hb, h.t2.below hb, h.s1, h.s2, h.l1, h.l2, h.dis, h.bel.trans (hb.mono h.bel.size)⟩
theorem TR.more {w : World} {T : Nat} {S : Rw → Prop} {n : Int} {F : Nat → Prop} {M M' : Nat} (h : TR w T S n F M) (hM : M ≤ M') : TR w T S n F M' := by
  obtain ⟨G, h1⟩ := h
  exact ⟨G, h1.more hM⟩
theorem LO.more {w wr : World} {T1 T2 : Nat} {R1 R2 : List Rw} {F1 F2 : Nat → Prop} {M M' : Nat} (h : LO w wr T1 T2 R1 R2 F1 F2 M) (hM : M ≤ M') : LO w wr T1 T2 R1 R2 F1 F2 M' :=
  ⟨h.t1.more hM, h.t2.more hM, h.s1, h.s2, h.l1, h.l2, h.dis, h.bel⟩
theorem LO.ok {w wr : World} {T1 T2 : Nat} {R1 R2 : List Rw} {F1 F2 : Nat → Prop} {M : Nat} (h : LO w wr T1 T2 R1 R2 F1 F2 M) : ∀ x ∈ R1, RwOk x := by
  obtain ⟨G, h1⟩ := h.t1
  exact fun x hx => (h1.row x hx).1
/-- a row with nothing but its filter -/
def bare7 (c f : ByteArray) : Rw := ⟨c, ⟨f, 0, false, false, 0⟩⟩
def OAdd (w wr : World) (T1 T2 : Nat) (R1 R2 : List Rw) (F1 F2 : Nat → Prop) (M : Nat) (c f : ByteArray) (e : Ending) (w' : World) : Prop :=
  ∃ v, e = .returned v ∧ ∃ R1' F1', LO w w' T1 T2 R1' R2 F1' F2 (M + 33) ∧ Fr F1 wr w' ∧ (∀ x, x ∈ R1' ↔ (x ∈ R1 ∧ ¬ (okF f = true ∧ x.c = c ∧ x.s.f = f)) ∨ (okF f = true ∧ x = bare7 c f)) ∧ R1'.length ≤ R1.length + 1
theorem LO.add {w wr : World} {T1 T2 : Nat} {R1 R2 : List Rw} {F1 F2 : Nat → Prop} {M : Nat} (h : LO w wr T1 T2 R1 R2 F1 F2 M) (hg : Laid2 w) (c f : ByteArray) (hc : c.size ≤ 70000) (hf : f.size ≤ 70000) (hn : R1.length ≤ 1000000) (hM : M + 33 ≤ 1000000) :
    Calls Tryz.prog 16 #[.pointer (some ⟨T1, 0, none⟩), .string c, .agg #[.string f, .int .i64 0, .bool false, .bool false, .int .i64 0]] wr (OAdd w wr T1 T2 R1 R2 F1 F2 M c f) := by
  cases hok : okF f with
  | false =>
    refine (add_no (T := T1) c ⟨f, 0, false, false, 0⟩ hf (hg.up h.bel).2 hok).mono ?_
    rintro e w' ⟨x, rfl, _, hb⟩
    exact ⟨_, rfl, R1, F1, (h.bel2 hb).more (by omega), Fr.of_below hb, fun y => by simp [hok], by omega⟩
  | true =>
    refine (add_yes c ⟨f, 0, false, false, 0⟩ ⟨hc, hf, hok⟩ (hg.up h.bel).2 h.t1 ⟨by omega, by omega⟩ hM).mono ?_
    rintro e w' ⟨had, rfl, hpost⟩
    obtain ⟨hhad, F', htr, hext, hfr⟩ := hpost
    obtain ⟨R', p1, p2, p3, p4⟩ := put_list h.s1 (bare7 c f)
    have hlen : (if had = true then (R1.length : Int) else (R1.length : Int) + 1) = R'.length ∧ R'.length ≤ R1.length + 1 := by
      cases had with
      | true =>
        have := p3 (hhad.1 rfl)
        rw [if_pos rfl]
        omega
      | false =>
        have := p4 (fun e => by have := hhad.2 e; cases this)
        rw [if_neg (by decide)]
        omega
    refine ⟨_, rfl, R', F', ⟨?_, h.t2.fr hfr (fun k h2 h1 => h.dis k h1 h2) |>.more (by omega), p1, h.s2, ?_, h.l2, ?_, below_fr h.bel hfr h.l1 h.bel.size⟩, hfr, fun x => ?_, hlen.2⟩
    · rw [p2, ← hlen.1]; exact htr
    · intro k hk
      rcases hext.2 k hk with h1 | h1
      · exact h.l1 k h1
      · exact Nat.le_trans h.bel.size h1
    · intro k hk h2
      rcases hext.2 k hk with h1 | h1
      · exact h.dis k h1 h2
      · have := h.t2.lt k h2; omega
    · have e := congrFun p2 x
      rw [e]
      unfold insS
      constructor
      · rintro (rfl | ⟨h1, h2⟩)
        · exact .inr ⟨hok, rfl⟩
        · exact .inl ⟨h1, fun e => h2 e.2⟩
      · rintro (⟨h1, h2⟩ | ⟨_, h1⟩)
        · exact .inr ⟨h1, fun e => h2 ⟨hok, e⟩⟩
        · exact .inl h1
def ORem (w wr : World) (T1 T2 : Nat) (R1 R2 : List Rw) (F1 F2 : Nat → Prop) (M : Nat) (c f : ByteArray) (e : Ending) (w' : World) : Prop :=
  ∃ v, e = .returned v ∧ ∃ R1', LO w w' T1 T2 R1' R2 F1 F2 M ∧ Fr F1 wr w' ∧ (∀ x, x ∈ R1' ↔ x ∈ R1 ∧ ¬ (x.c = c ∧ x.s.f = f)) ∧ R1'.length ≤ R1.length
theorem LO.rem {w wr : World} {T1 T2 : Nat} {R1 R2 : List Rw} {F1 F2 : Nat → Prop} {M : Nat} (h : LO w wr T1 T2 R1 R2 F1 F2 M) (hg : Laid2 w) (c f : ByteArray) (hc : c.size ≤ 70000) (hf : f.size ≤ 70000) (hn : R1.length ≤ 1000000) :
    Calls Tryz.prog 9 #[.pointer (some ⟨T1, 0, none⟩), .string c, .string f] wr (ORem w wr T1 T2 R1 R2 F1 F2 M c f) := by
  refine (remove_any c f hc hf (hg.up h.bel).2 h.t1 ⟨by omega, by omega⟩).mono ?_
  rintro e w' ⟨had, rfl, hhad, htr, hfr⟩
  obtain ⟨R', p1, p2, p3, p4⟩ := cut_list h.s1 c f
  have hhad' : had = true ↔ hadS (fun x => x ∈ R1) c f := hhad
  have hlen : (if had = true then (R1.length : Int) - 1 else (R1.length : Int)) = R'.length ∧ R'.length ≤ R1.length := by
    cases had with
    | true =>
      have := p3 (hhad'.1 rfl)
      rw [if_pos rfl]
      omega
    | false =>
      have := p4 (fun e => by have := hhad'.2 e; cases this)
      rw [if_neg (by decide)]
      omega
  refine ⟨_, rfl, R', ⟨?_, h.t2.fr hfr (fun k h2 h1 => h.dis k h1 h2), p1, h.s2, h.l1, h.l2, h.dis, below_fr h.bel hfr h.l1 h.bel.size⟩, hfr, fun x => ?_, hlen.2⟩
  · rw [p2, ← hlen.1]; exact htr
  · have e := congrFun p2 x
    rw [e]
    rfl
/-! which rows stand behind so many acts -/
def In1 (az : Nat → Ac) (k : Nat) (R : List Rw) : Prop := ∀ x, x ∈ R ↔ ∃ j, j < k ∧ okF (az j).s.f = true ∧ x = bare7 (az j).c (az j).s.f
def In2 (az : Nat → Ac) (n k : Nat) (R : List Rw) : Prop := ∀ x, x ∈ R ↔ ∃ j, j < n ∧ n ≤ j + k ∧ okF (az j).s.f = true ∧ x = bare7 (az j).c (az j).s.f
theorem bare_eq {x : Rw} {c f c' f' : ByteArray} (h : x = bare7 c' f') (h1 : x.c = c) (h2 : x.s.f = f) : x = bare7 c f := by
  subst h; subst h1; subst h2; rfl
theorem In1.step {az : Nat → Ac} {k : Nat} {R R' : List Rw} (h : In1 az k R) (h' : ∀ x, x ∈ R' ↔ (x ∈ R ∧ ¬ (okF (az k).s.f = true ∧ x.c = (az k).c ∧ x.s.f = (az k).s.f)) ∨ (okF (az k).s.f = true ∧ x = bare7 (az k).c (az k).s.f)) : In1 az (k + 1) R' := fun x => by
  rw [h' x, h x]
  constructor
  · rintro (⟨⟨j, h1, h2⟩, _⟩ | ⟨h1, h2⟩)
    · exact ⟨j, by omega, h2⟩
    · exact ⟨k, by omega, h1, h2⟩
  · rintro ⟨j, h1, h2, h3⟩
    by_cases he : okF (az k).s.f = true ∧ x.c = (az k).c ∧ x.s.f = (az k).s.f
    · exact .inr ⟨he.1, bare_eq h3 he.2.1 he.2.2⟩
    · rcases Nat.lt_or_eq_of_le (Nat.lt_succ_iff.1 h1) with h4 | h4
      · exact .inl ⟨⟨j, h4, h2, h3⟩, he⟩
      · subst h4
        exact absurd ⟨h2, by rw [h3]; rfl, by rw [h3]; rfl⟩ he
theorem In2.step {az : Nat → Ac} {n k m : Nat} {R R' : List Rw} (h : In2 az n k R) (hm : m + k + 1 = n) (h' : ∀ x, x ∈ R' ↔ (x ∈ R ∧ ¬ (okF (az m).s.f = true ∧ x.c = (az m).c ∧ x.s.f = (az m).s.f)) ∨ (okF (az m).s.f = true ∧ x = bare7 (az m).c (az m).s.f)) : In2 az n (k + 1) R' := fun x => by
  rw [h' x, h x]
  constructor
  · rintro (⟨⟨j, h1, h2, h3⟩, _⟩ | ⟨h1, h2⟩)
    · exact ⟨j, h1, by omega, h3⟩
    · exact ⟨m, by omega, by omega, h1, h2⟩
  · rintro ⟨j, h0, h1, h2, h3⟩
    by_cases he : okF (az m).s.f = true ∧ x.c = (az m).c ∧ x.s.f = (az m).s.f
    · exact .inr ⟨he.1, bare_eq h3 he.2.1 he.2.2⟩
    · by_cases h4 : j = m
      · subst h4
        exact absurd ⟨h2, by rw [h3]; rfl, by rw [h3]; rfl⟩ he
      · exact .inl ⟨⟨j, h0, by omega, h2, h3⟩, he⟩
theorem in_same {az : Nat → Ac} {n : Nat} {R1 R2 : List Rw} (h1 : In1 az n R1) (h2 : In2 az n n R2) (s1 : Srt R1) (s2 : Srt R2) : R1 = R2 :=
  srt_eq s1 s2 fun x => by
    rw [h1 x, h2 x]
    exact ⟨fun ⟨j, a, b⟩ => ⟨j, a, by omega, b⟩, fun ⟨j, a, _, b⟩ => ⟨j, a, b⟩⟩
/-- what is left behind so many removals -/
def Lft (az : Nat → Ac) (n k : Nat) (R : List Rw) : Prop := ∀ x, x ∈ R → ∃ j, k ≤ j ∧ j < n ∧ x = bare7 (az j).c (az j).s.f
theorem Lft.of {az : Nat → Ac} {n : Nat} {R : List Rw} (h : In1 az n R) : Lft az n 0 R := fun x hx => by
  obtain ⟨j, a, _, b⟩ := (h x).1 hx
  exact ⟨j, Nat.zero_le _, a, b⟩
theorem Lft.step {az : Nat → Ac} {n k : Nat} {R R' : List Rw} (h : Lft az n k R) (h' : ∀ x, x ∈ R' ↔ x ∈ R ∧ ¬ (x.c = (az k).c ∧ x.s.f = (az k).s.f)) : Lft az n (k + 1) R' := fun x hx => by
  obtain ⟨h1, h2⟩ := (h' x).1 hx
  obtain ⟨j, a, b, c⟩ := h x h1
  refine ⟨j, ?_, b, c⟩
  rcases Nat.lt_or_eq_of_le a with h4 | h4
  · exact h4
  · subst h4
    exact absurd ⟨by rw [c]; rfl, by rw [c]; rfl⟩ h2
theorem Lft.done {az : Nat → Ac} {n : Nat} {R : List Rw} (h : Lft az n n R) : R = [] := by
  cases R with
  | nil => rfl
  | cons x r =>
    obtain ⟨j, a, b, _⟩ := h x (by simp)
    omega
end Go.Proofs.YtdjpllmgjmnolaaGreatDoor.Y
/- Proved here: topic's Filter and Match at a subscription that a name matches. Helper contracts. -/
namespace Go.Proofs.YtdjpllmgjmnolaaGreatDoor.Y
open Go.RowKit Go.Maps
set_option maxRecDepth 100000

/-- what stands behind a group is a filter of its own -/
theorem flt_inner {l g p : List UInt8} (h : flt l = some (g, p)) : flt p = some ([], p) := by
  cases hp : shr.isPrefixOf l with
  | false =>
    rw [flt_not hp] at h
    split at h
    · rename_i hq
      simp only [Option.some.injEq, Prod.mk.injEq] at h
      obtain ⟨_, rfl⟩ := h
      rw [flt_not hp, if_pos hq]
    · cases h
  | true =>
    obtain ⟨n, _, _, h3⟩ := slash_at (l.drop 7)
    rcases h3 with ⟨_, hi⟩ | ⟨b, e, _, hi, _⟩
    · rw [flt_no1 hp hi] at h; cases h
    · rw [flt_cut hp e hi] at h
      split at h
      · rename_i hq
        simp only [Option.some.injEq, Prod.mk.injEq] at h
        obtain ⟨_, rfl⟩ := h
        rw [flt_not hq.2.1, if_pos hq.2.2]
      · cases h
/-- a subscription that a name matches: its filter is told, and matches by itself -/
theorem tf_any (u : Rw) (hu : RwOk u) (nm : ByteArray) (hs : nm.size ≤ 70000) (hnm : isName nm.data.toList = true) (hh : hits u.s.f.data.toList nm.data.toList = true) :
    ∃ g p : ByteArray, (∀ W, Len W → Calls Tryz.prog 19 #[.string u.s.f] W fun e w' => e = .returned (.tuple #[.string g, .string p, .nilIface]) ∧ Below W.heap.size W w') ∧ (∀ W, Len W → Calls Tryz.prog 20 #[.string p, .string nm] W fun e w' => e = .returned (.tuple #[.bool true, .nilIface]) ∧ Below W.heap.size W w') := by
  cases h : flt u.s.f.data.toList with
  | none => unfold hits at hh; rw [h] at hh; cases hh
  | some x =>
    obtain ⟨g, p⟩ := x
    have hm : mtc p nm.data.toList = true := by unfold hits at hh; rw [h] at hh; exact hh
    have hin := flt_inner h
    have hpl : (bt p).size ≤ 70000 := by
      rw [bt_size]
      have hl := prt_len u.s.f.data.toList
      rw [size_len] at hl
      have hf := hu.2.1
      unfold flt at h
      split at h
      · split at h
        · simp only [Option.some.injEq, Prod.mk.injEq] at h
          rw [← h.2]; omega
        · cases h
      · cases h
    refine ⟨bt g, bt p, fun W hW => filter_yes u.s.f g p W hu.2.1 hW h, fun W hW => ?_⟩
    have hmay : mayM (bt p).data.toList nm.data.toList = true := by
      unfold mayM
      rw [bt_data, hnm, decide_eq_true hin]
      rfl
    have k := _root_.Go.Proofs.YtdjpllmgjmnolaaGreatDoor.match_yes (bt p) nm W hpl hs hW hmay
    rw [bt_data, hm] at k
    exact k
end Go.Proofs.YtdjpllmgjmnolaaGreatDoor.Y
/- Proved here: the walk of TrieOrders at no acts: it answers true. -/
namespace Go.Proofs.YtdjpllmgjmnolaaGreatDoor.Y
open Go.RowKit Go.Maps
set_option maxRecDepth 100000

set_option maxHeartbeats 4000000 in
theorem or_nil (ao : Option Addr) (cap : Nat) (w : World) (hg : Laid2 w) : Calls Tryz.prog 4 #[.slice ao 0 cap] w fun e w' => e = .returned (.bool true) ∧ Below w.heap.size w w' := by
  have HH := hide (heavy_nil ao cap (fun _ => default) w)
  have HG := hide hg
  clear hg
  go_enter Tryz.func4, Tryz.ntmps4
  go_wp2_with fail
  refine (unhide HH).mono ?_
  rintro e w1 ⟨rr, rfl, _, hb1⟩
  have HB1 := hide hb1
  clear hb1 HH
  cases rr with
  | true =>
    go_wp2
    go_ret
    exact ⟨rfl, unhide HB1⟩
  | false =>
    go_wp2_with fail
    refine (new_any w1).mono ?_
    rintro e w2 ⟨rfl, HT1, hb2⟩
    have HB2 := hide ((unhide HB1).trans (hb2.mono (unhide HB1).size))
    clear hb2 HB1
    go_wp2_with fail
    refine (new_any w2).mono ?_
    rintro e w3 ⟨rfl, HT2, hb3⟩
    have HB3 := hide ((unhide HB2).trans (hb3.mono (unhide HB2).size))
    have HT3 := hide ((unhide HT1).below hb3)
    generalize w1.heap.size = T1 at HT3 ⊢
    generalize w2.heap.size = T2 at HT2 ⊢
    clear hb3 HB2 HT1
    have HC1 := hide (count_any (unhide HT3))
    have HC2 := hide (count_any (unhide HT2))
    have HM := hide (match_yes (w := w3) (T := T1) (R := []) ⟨#[97]⟩ (by decide) ((unhide HG).up (unhide HB3)).2 (unhide HT3) (fun x => by simp) List.Pairwise.nil (by decide) (by decide))
    go_wp2_with fail
    refine wp_loop_rounds 1 ?_
    rw [rounds_succ]
    go_wp2_with fail
    refine (unhide HC1).mono ?_
    rintro e wc ⟨rfl, hwc⟩
    obtain rfl := hwc.symm
    go_wp2_with fail
    refine (unhide HC2).mono ?_
    rintro e wc ⟨rfl, hwc⟩
    obtain rfl := hwc.symm
    go_wp2_with fail
    refine wp_loop_rounds 1 ?_
    rw [rounds_succ]
    go_wp2_with fail
    refine wp_loop_rounds 1 ?_
    rw [rounds_succ]
    go_wp2_with fail
    refine (unhide HM).mono ?_
    rintro e w6 ⟨hv, rfl, HO6, hb6⟩
    have HB6 := hide ((unhide HB3).trans (hb6.mono (unhide HB3).size))
    have HC := hide (count_any ((unhide HT3).below hb6))
    obtain ⟨ao2, cp, rfl, _, _⟩ := rows_in rfl (unhide HO6)
    clear hb6 HM HO6 HC1 HC2 HT2 HT3 HB3
    simp only [List.filter_nil, List.length_nil]
    go_wp2_with fail
    refine (unhide HC).mono ?_
    rintro e wc ⟨rfl, hwc⟩
    obtain rfl := hwc.symm
    have HN := hide (num7 .nilIface 0 w6 ((unhide HG).up (unhide HB6)).1 (.inl ⟨rfl, rfl⟩))
    clear HC
    go_wp2_with fail
    refine (unhide HN).mono ?_
    rintro e w8 ⟨rfl, hb8⟩
    have HB8 := hide ((unhide HB6).trans (hb8.mono (unhide HB6).size))
    have HW := hide (wakes7 w8 ((unhide HG).up (unhide HB8)))
    clear hb8 HN HB6
    go_wp2_with fail
    refine (unhide HW).mono ?_
    rintro e w9 ⟨rfl, hb9⟩
    have HB9 := hide ((unhide HB8).trans (hb9.mono (unhide HB8).size))
    clear hb9 HW
    go_wp2
    go_ret
    exact ⟨rfl, unhide HB9⟩
end Go.Proofs.YtdjpllmgjmnolaaGreatDoor.Y
