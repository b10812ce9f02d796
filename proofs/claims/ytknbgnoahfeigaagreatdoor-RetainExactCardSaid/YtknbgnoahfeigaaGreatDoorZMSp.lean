/- Proved here: worlds in which some blocks may hold other cells (SF); dovecotelaw0's Props and Messages, handed rows of the caller's own, write into these alone. Helper contracts. -/
import Derived.Test.YtknbgnoahfeigaaGreatDoorZMCopy
import Derived.Laws.AppendOwn
import Derived.Lib.AppendStr
namespace Go.Proofs.YtknbgnoahfeigaaGreatDoor.M
open Go.RowKit
set_option maxRecDepth 100000

theorem wpList_append_run (w : World) {ops : Array Oper} {rest : List Oper} {o : Oper} {a : Act} {Q : Exit → Act → World → Prop} {Z : Value → World → Prop} (hgd : o.guard = none) (s x : Operand) (t u : TypeId)
    (ho : o.op = .call { callee := .builtin .append, args := #[s, x], argTypes := #[t, u] }) (v vx : Value) (hs : a.eval s = v) (hx : a.eval x = vx)
    (hr : ∃ v' w', (Builtin.append_ #[t, u] o.type #[v, vx]).run Tryz.prog w = .ok v' w' ∧ Z v' w')
    (h : ∀ v' w', Z v' w' → wpList Tryz.prog ops Q rest (a.put o.dst v') w') : wpList Tryz.prog ops Q (o :: rest) a w := by
  refine wpList_plain hgd fun K hK => ?_
  obtain ⟨v', w', hr, h2⟩ := hr
  unfold Oper.wp execOp
  simp only [ho, resolve, invoke, builtin, Sem.run_bind, Sem.run_pure, Result.andThen_ok, List.map_toArray, List.map_cons, List.map_nil, hs, hx, hr]
  exact hK _ _ (h v' w' h2)
/-- nothing below B has turned; blocks of types of which T says so may hold other cells, as many as before; all other blocks are as they were -/
structure SF (B : Nat) (T : Nat → TypeId → Prop) (w w' : World) : Prop where
  os : w'.os = w.os
  tape : w'.tape = w.tape
  output : w'.output = w.output
  size : w.heap.size ≤ w'.heap.size
  low : ∀ k : Nat, k < B → w'.heap[k]? = w.heap[k]?
  same : ∀ (k : Nat) (cur : Array Value) (e : TypeId), w.heap[k]? = some (Obj.cells cur e (0, 0)) → ¬ T k e → w'.heap[k]? = some (Obj.cells cur e (0, 0))
  shp : ∀ (k : Nat) (cur : Array Value) (e : TypeId), w.heap[k]? = some (Obj.cells cur e (0, 0)) → ∃ cur', w'.heap[k]? = some (Obj.cells cur' e (0, 0)) ∧ cur'.size = cur.size
theorem SF.refl (B : Nat) (T : Nat → TypeId → Prop) (w : World) : SF B T w w := ⟨rfl, rfl, rfl, Nat.le_refl _, fun _ _ => rfl, fun _ _ _ h _ => h, fun _ cur _ h => ⟨cur, h, rfl⟩⟩
theorem SF.trans {B : Nat} {T : Nat → TypeId → Prop} {a b c : World} (h : SF B T a b) (k : SF B T b c) : SF B T a c :=
  ⟨k.os.trans h.os, k.tape.trans h.tape, k.output.trans h.output, Nat.le_trans h.size k.size, fun i hi => (k.low i hi).trans (h.low i hi), fun i cur e h1 h2 => k.same i cur e (h.same i cur e h1 h2) h2, fun i cur e h1 => by
    obtain ⟨cur1, h2, h3⟩ := h.shp i cur e h1
    obtain ⟨cur2, h4, h5⟩ := k.shp i cur1 e h2
    exact ⟨cur2, h4, h5.trans h3⟩⟩
theorem SF.weak {B : Nat} {T T' : Nat → TypeId → Prop} {a b : World} (h : SF B T a b) (ht : ∀ k e, T k e → T' k e) : SF B T' a b := ⟨h.os, h.tape, h.output, h.size, h.low, fun k cur e h1 h2 => h.same k cur e h1 (fun x => h2 (ht k e x)), h.shp⟩
theorem SF.below {B : Nat} {T : Nat → TypeId → Prop} {a b : World} (h : SF B T a b) : Below B a b := ⟨h.os, h.tape, h.output, h.size, h.low⟩
theorem SF.grow {B : Nat} {T : Nat → TypeId → Prop} {a b : World} (hs : b.heap.size ≥ a.heap.size) (h1 : b.os = a.os) (h2 : b.tape = a.tape) (h3 : b.output = a.output) (hB : B ≤ a.heap.size) (h : ∀ k, k < a.heap.size → b.heap[k]? = a.heap[k]?) : SF B T a b :=
  ⟨h1, h2, h3, hs, fun k hk => h k (by omega), fun k cur e hk _ => (h k (Array.getElem?_eq_some_iff.1 hk).1).trans hk, fun k cur e hk => ⟨cur, (h k (Array.getElem?_eq_some_iff.1 hk).1).trans hk, rfl⟩⟩
theorem SF.bel {B : Nat} {T : Nat → TypeId → Prop} {a b : World} (h : Below a.heap.size a b) (hB : B ≤ a.heap.size) : SF B T a b := SF.grow h.size h.os h.tape h.output hB h.block
theorem SF.set {B : Nat} {T : Nat → TypeId → Prop} {a b : World} (h : SF B T a b) (g j : Nat) (u : Value) (hg : B ≤ g) (cur : Array Value) (e : TypeId) (hb : b.heap[g]? = some (Obj.cells cur e (0, 0))) (ht : T g e) : SF B T a (b.setCell ⟨g, j, none⟩ u) :=
  h.trans ⟨rfl, rfl, rfl, by simp [World.setCell], fun k hk => Below.heap_setCell _ _ _ _ (by show k ≠ g; omega), fun k cur' e' h1 h2 => by
    by_cases hk : k = g
    · subst hk
      rw [hb] at h1
      cases h1
      exact absurd ht h2
    · exact (Below.heap_setCell _ _ _ _ hk).trans h1, fun k cur' e' h1 => by
    by_cases hk : k = g
    · subst hk
      refine ⟨cur'.setIfInBounds j u, ?_, by simp⟩
      unfold World.setCell
      simp [Array.getElem?_modify, h1]
    · exact ⟨cur', (Below.heap_setCell _ _ _ _ hk).trans h1, rfl⟩⟩
/-- a row of one's own, whatever it holds -/
def OwnE (w : World) (B : Nat) (e : TypeId) (s : Nat) (v : Value) (n : Nat) : Prop := ∃ xs, w.ownsRow B e s v n xs
theorem OwnE.sf {w w' : World} {B : Nat} {e : TypeId} {s : Nat} {v : Value} {n : Nat} {T : Nat → TypeId → Prop} (h : OwnE w B e s v n) (k : SF B T w w') : OwnE w' B e s v n := by
  obtain ⟨xs, h1, h2⟩ := h
  rcases h2 with h2 | ⟨g, cap, cur, rfl, hB, hg, h3, h4, h5, h6⟩
  · exact ⟨xs, h1, .inl h2⟩
  · obtain ⟨cur', k1, k2⟩ := k.shp g cur e hg
    refine ⟨cur'.toList.take (n * s), ?_, .inr ⟨g, cap, cur', rfl, hB, k1, h3, h4, k2.trans h5, rfl⟩⟩
    rw [List.length_take, Array.length_toList, k2, h5]
    exact Nat.min_eq_left (Nat.mul_le_mul_right _ h3)
theorem OwnE.cell {w : World} {B : Nat} {e : TypeId} {s g n cap : Nat} (h : OwnE w B e s (.slice (some ⟨g, 0, none⟩) n cap) n) (i : Nat) (hi : i < n * s) : (∃ v, w.cell? ⟨g, i, none⟩ = some v) ∧ w.frozen? ⟨g, i, none⟩ = false := by
  obtain ⟨xs, h⟩ := h
  have hl : xs.length = n * s := h.1
  exact ⟨⟨_, by rw [h.cellAt i (by omega), List.getElem?_eq_getElem (by omega)]⟩, h.frozenAt i⟩
theorem OwnE.blk {w : World} {B : Nat} {e : TypeId} {s g n cap : Nat} (h : OwnE w B e s (.slice (some ⟨g, 0, none⟩) n cap) n) : B ≤ g ∧ ∃ cur, w.heap[g]? = some (Obj.cells cur e (0, 0)) := by
  obtain ⟨xs, h1, h2⟩ := h
  rcases h2 with ⟨h2, _⟩ | ⟨g', cap', cur, e', hB, hg, _⟩
  · cases h2
  · cases e'
    exact ⟨hB, cur, hg⟩
/-- append of one onto a row of one's own -/
theorem app_sf {B : Nat} {T : Nat → TypeId → Prop} (w : World) (t ty e : TypeId) (i : TypeInfo) (z : Value) (size bytes : Nat) (ht : Tryz.prog.underlying t = some (.slice e)) (hi : Tryz.prog.info? e = some i) (hz : i.zero = some z) (hsize : i.size = size) (hby : i.bytes = bytes) (hzs : z.cells.size = size) (hsz : 0 < size)
    (v : Value) (n : Nat) (hown : OwnE w B e size v n) (a : Addr) (c : Nat) (news : List Value) (hl : news.length = 1 * size) (hnews : ∀ j u, news[j]? = some u → w.cell? (a.add j) = some u) (h1 : ∀ u ∈ news, u.oneCell' = true) (hn : n ≤ 2932031007317) (hbb : (n + 1) * bytes ≤ 140737488355328) (hB : B ≤ w.heap.size) (hT : ∀ g, v.ownBlock = some g → T g e) :
    ∃ v' w', (Builtin.append_ #[t, t] ty #[v, .slice (some a) 1 c]).run Tryz.prog w = .ok v' w' ∧ SF B T w w' := by
  subst hsize
  subst hby
  have hbytes : (n + 1) * i.bytes ≤ 140737488355328 := hbb
  obtain ⟨xs, hown⟩ := hown
  rcases hown.2 with ⟨rfl, rfl⟩ | ⟨g, cap, cur, rfl, hbg, hg, hnc, hcm, hcs, htake⟩
  · obtain ⟨v', w', k1, k2, k3, _⟩ := run_append_own (P := Tryz.prog) (w := w) B t ty e i z i.size i.bytes ht hi hz rfl rfl hzs hsz _ 0 xs hown a 1 c news hl hnews h1 (by unfold maxLen; omega) hbytes hB
    exact ⟨v', w', k1, SF.grow k3.size k3.os k3.tape k3.output hB (fun k hk => k3.block k hk (by simp [Value.ownBlock]))⟩
  · by_cases hroom : n + 1 ≤ cap
    · have hfit : n * i.size + news.length ≤ cur.size := by rw [hl, hcs, ← Nat.add_mul]; exact Nat.mul_le_mul_right _ hroom
      have hr := run_append_room (P := Tryz.prog) w t ty e i ht hi g n cap cur hg a 1 c news hl hnews h1 hroom hfit
      refine ⟨_, _, hr, ⟨rfl, rfl, rfl, by simp, fun k hk => setRow_other w g k _ (by omega), fun k cur' e' h3 h4 => ?_, fun k cur' e' h3 => ?_⟩⟩
      · by_cases hk : k = g
        · subst hk
          rw [hg] at h3
          cases h3
          exact absurd (hT _ rfl) h4
        · exact (setRow_other w g k _ hk).trans h3
      · by_cases hk : k = g
        · subst hk
          rw [hg] at h3
          cases h3
          refine ⟨_, setRow_heap w k cur _ e _ hg, ?_⟩
          simp only [List.size_toArray, List.length_append, List.length_take, List.length_drop, Array.length_toList]
          omega
        · exact ⟨cur', (setRow_other w g k _ hk).trans h3, rfl⟩
    · have holds : ∀ j u, xs[j]? = some u → w.cell? ((⟨g, 0, none⟩ : Addr).add j) = some u := hown.cells (g := g) rfl
      have hr := run_append_grow (P := Tryz.prog) w t ty e i z ht hi hz ⟨g, 0, none⟩ n cap xs hown.1 holds a 1 c news hl hnews (by omega) (by omega) (growslice_fits (by omega) hbytes)
      exact ⟨_, _, hr, SF.grow (by simp) rfl rfl rfl hB (fun k hk => heap_alloc_old w.drew _ hk)⟩
/-- .. and the block g is a row of the type e that may turn -/
def SFg (B : Nat) (T : Nat → TypeId → Prop) (w w' : World) (g : Nat) (e : TypeId) : Prop := SF B T w w' ∧ B ≤ g ∧ T g e ∧ ∃ cur, w'.heap[g]? = some (Obj.cells cur e (0, 0))
theorem SFg.set {B : Nat} {T : Nat → TypeId → Prop} {w w' : World} {g : Nat} {e : TypeId} (h : SFg B T w w' g e) (j : Nat) (u : Value) : SFg B T w (w'.setCell ⟨g, j, none⟩ u) g e := by
  obtain ⟨h1, h2, h3, cur, h4⟩ := h
  refine ⟨h1.set g j u h2 cur e h4 h3, h2, h3, cur.setIfInBounds j u, ?_⟩
  unfold World.setCell
  simp [Array.getElem?_modify, h4]
set_option maxHeartbeats 2000000 in
theorem props_sp (B : Nat) (v : Value) (n : Nat) (w : World) (hB : B ≤ w.heap.size) (hn : n ≤ 2932031007317) (h : OwnE w B 83 4 v n) : Calls Tryz.prog 42 #[v] w fun e w' => e = .returned (.tuple #[]) ∧ SF B (fun k t => t = 83 ∧ v.ownBlock = some k) w w' := by
  obtain ⟨i0, hi, hz0, hz1, hz2⟩ := info_parts infoProp
  have hv : (v = .slice none 0 0 ∧ n = 0) ∨ ∃ g cap, v = .slice (some ⟨g, 0, none⟩) n cap := by
    obtain ⟨xs, h⟩ := h
    rcases h.2 with h1 | ⟨g, cap, _, h1, _⟩
    · exact .inl h1
    · exact .inr ⟨g, cap, h1⟩
  rcases hv with ⟨rfl, rfl⟩ | ⟨g, cap, rfl⟩
  · clear h
    go_enter Tryz.func42, Tryz.ntmps42
    go_wp2
    refine wp_loop_rounds 1 ?_
    rw [rounds_succ]
    have HAPP : Hid (∀ ty, ∃ v' w', (Builtin.append_ #[24, 24] ty #[.slice none 0 0, .slice (some ⟨w.heap.size, 0, none⟩) 1 1]).run Tryz.prog (w.alloc (.cells #[.int .i64 0, .int .i64 0, .string ⟨#[]⟩, .string ⟨#[]⟩] 83)) = .ok v' w' ∧ SF B (fun k t => t = 83 ∧ (Value.slice none 0 0).ownBlock = some k) w w') := fun ty => by
      obtain ⟨v', w', h1, h2⟩ := app_sf (B := B) (T := fun k t => t = 83 ∧ (Value.slice none 0 0).ownBlock = some k) (w.alloc (.cells #[.int .i64 0, .int .i64 0, .string ⟨#[]⟩, .string ⟨#[]⟩] 83)) 24 ty 83 i0 _ 4 48 Tryz.underlying24 hi hz0 hz1 hz2 rfl (by decide) (.slice none 0 0) 0 ⟨[], World.ownsRow_nil _ _ _ _⟩ ⟨w.heap.size, 0, none⟩ 1 [.int .i64 0, .int .i64 0, .string ⟨#[]⟩, .string ⟨#[]⟩] rfl (four_cell _ _ _ _ _ _) (four_one _ _ _ _) hn (by omega) (by simp; omega) (fun _ h => ⟨rfl, h⟩)
      exact ⟨v', w', h1, (SF.bel ((Below.refl _ _).alloc (Nat.le_refl _) _) hB).trans h2⟩
    go_wp2_with (first
      | (at_builtin; refine wpList_append_run _ (Z := fun _ w' => SF B (fun k t => t = 83 ∧ (Value.slice none 0 0).ownBlock = some k) w w') rfl _ _ 24 24 rfl _ _ rfl rfl ((unhide HAPP) _) ?_)
      | go_in)
    intro v' w1 hsf
    have HSF := hide hsf
    clear hsf HAPP
    go_wp2
    go_end0
    exact ⟨rfl, unhide HSF⟩
  · have HO := hide h
    have hgb := h.blk
    clear h
    go_enter Tryz.func42, Tryz.ntmps42
    go_wp2
    go_loopw [2] (fun i wr => ∃ k : Nat, k ≤ n ∧ i = .int .i64 k ∧ Hid (SF B (fun k t => t = 83 ∧ (Value.slice (some ⟨g, 0, none⟩) n cap).ownBlock = some k) w wr)) (fun i _ => n - (intOf i).toNat)
    case atStart => exact ⟨0, Nat.zero_le _, rfl, SF.refl _ _ _⟩
    case round =>
      obtain ⟨k, hk, rfl, HSF⟩ := hrel
      have HOr := hide ((unhide HO).sf (unhide HSF))
      by_cases hlt : k < n
      · have HG : Hid (SFg B (fun k t => t = 83 ∧ (Value.slice (some ⟨g, 0, none⟩) n cap).ownBlock = some k) w wr g 83) := ⟨unhide HSF, (unhide HOr).blk.1, ⟨rfl, rfl⟩, (unhide HOr).blk.2⟩
        obtain ⟨⟨v0, c0⟩, f0⟩ := (unhide HOr).cell (k * 4) (by omega)
        obtain ⟨⟨v1, c1⟩, f1⟩ := (unhide HOr).cell (k * 4 + 1) (by omega)
        obtain ⟨⟨v2, c2⟩, f2⟩ := (unhide HOr).cell (k * 4 + 2) (by omega)
        obtain ⟨⟨v3, c3⟩, f3⟩ := (unhide HOr).cell (k * 4 + 3) (by omega)
        go_wp2
        go_roundw
        case rel => exact ⟨k + 1, by omega, by go_num, (((((unhide HG).set _ _).set _ _).set _ _).set _ _).1⟩
        case measure => simp [intOf]; omega
      · have HAPP : Hid (∀ ty, ∃ v' w', (Builtin.append_ #[24, 24] ty #[.slice (some ⟨g, 0, none⟩) n cap, .slice (some ⟨wr.heap.size, 0, none⟩) 1 1]).run Tryz.prog (wr.alloc (.cells #[.int .i64 0, .int .i64 0, .string ⟨#[]⟩, .string ⟨#[]⟩] 83)) = .ok v' w' ∧ SF B (fun k t => t = 83 ∧ (Value.slice (some ⟨g, 0, none⟩) n cap).ownBlock = some k) w w') := fun ty => by
          obtain ⟨xs, hx⟩ := unhide HOr
          obtain ⟨v', w', h1, h2⟩ := app_sf (B := B) (T := fun k t => t = 83 ∧ (Value.slice (some ⟨g, 0, none⟩) n cap).ownBlock = some k) (wr.alloc (.cells #[.int .i64 0, .int .i64 0, .string ⟨#[]⟩, .string ⟨#[]⟩] 83)) 24 ty 83 i0 _ 4 48 Tryz.underlying24 hi hz0 hz1 hz2 rfl (by decide) (.slice (some ⟨g, 0, none⟩) n cap) n ⟨xs, hx.alloc _⟩ ⟨wr.heap.size, 0, none⟩ 1 [.int .i64 0, .int .i64 0, .string ⟨#[]⟩, .string ⟨#[]⟩] rfl (four_cell _ _ _ _ _ _) (four_one _ _ _ _) hn (by omega) (by have := (unhide HSF).size; simp; omega) (fun _ h => ⟨rfl, h⟩)
          exact ⟨v', w', h1, ((unhide HSF).trans (SF.bel ((Below.refl _ _).alloc (Nat.le_refl _) _) (Nat.le_trans hB (unhide HSF).size))).trans h2⟩
        clear HOr
        go_wp2_with (first
          | (at_builtin; refine wpList_append_run _ (Z := fun _ w' => SF B (fun k t => t = 83 ∧ (Value.slice (some ⟨g, 0, none⟩) n cap).ownBlock = some k) w w') rfl _ _ 24 24 rfl _ _ rfl rfl ((unhide HAPP) _) ?_)
          | go_in)
        intro v' w1 hsf
        have HSF1 := hide hsf
        clear hsf HAPP
        go_wp2
        go_end0
        exact ⟨rfl, unhide HSF1⟩
/-- all blocks of a list of one's own lie below S -/
def Under (S : Nat) (v : Value) (qs : List Mq) : Prop := (∀ g, v.ownBlock = some g → g < S) ∧ ∀ q ∈ qs, ∀ g, q.2.ownBlock = some g → g < S
theorem owns_under {w : World} {B : Nat} {e : TypeId} {s : Nat} {v : Value} {n : Nat} {xs : List Value} (h : w.ownsRow B e s v n xs) : ∀ g, v.ownBlock = some g → g < w.heap.size := by
  intro g hg
  rcases h.2 with ⟨rfl, _⟩ | ⟨g', cap, cur, rfl, hB, hgg, _⟩
  · cases hg
  · cases hg
    exact (Array.getElem?_eq_some_iff.1 hgg).1
theorem OwnMs.under {w : World} {B : Nat} {v : Value} {qs : List Mq} (h : OwnMs w B v qs) : Under w.heap.size v qs := ⟨owns_under h.row, fun q hq => owns_under (h.prp q hq).1⟩
theorem OwnMs.sf {w w' : World} {B C S : Nat} {v : Value} {qs : List Mq} (h : OwnMs w B v qs) (k : SF C (fun g _ => g < S) w w') (hS : S ≤ B) : OwnMs w' B v qs := by
  have hr : ∀ {e : TypeId} {s : Nat} {v : Value} {n : Nat} {xs : List Value}, w.ownsRow B e s v n xs → w'.ownsRow B e s v n xs := fun {e s v n xs} h => by
    refine ⟨h.1, ?_⟩
    rcases h.2 with h1 | ⟨g, cap, cur, hv, hB, hg, rest⟩
    · exact .inl h1
    · exact .inr ⟨g, cap, cur, hv, hB, k.same g cur e hg (by omega), rest⟩
  exact ⟨hr h.row, fun q hq => ⟨hr (h.prp q hq).1, (h.prp q hq).2⟩⟩
set_option maxHeartbeats 4000000 in
theorem messages_sp (B S : Nat) (v : Value) (qs : List Mq) (w : World) (hB : B ≤ w.heap.size) (hn : qs.length ≤ 1000000) (h : OwnMs w B v qs) (hu : Under S v qs) : Calls Tryz.prog 18 #[v] w fun e w' => e = .returned (.tuple #[]) ∧ SF B (fun k _ => k < S) w w' := by
  obtain ⟨i0, hi, hz0, hz1, hz2⟩ := info_parts infoMsg
  have hv : (v = .slice none 0 0 ∧ qs.length = 0) ∨ ∃ g cap, v = .slice (some ⟨g, 0, none⟩) qs.length cap := by
    rcases h.row.2 with h1 | ⟨g, cap, _, h1, _⟩
    · exact .inl h1
    · exact .inr ⟨g, cap, h1⟩
  rcases hv with ⟨rfl, h0⟩ | ⟨g, cap, rfl⟩
  · clear h
    go_enter Tryz.func18, Tryz.ntmps18
    go_wp2
    refine wp_loop_rounds 1 ?_
    rw [rounds_succ]
    have HAPP : Hid (∀ ty, ∃ v' w', (Builtin.append_ #[23, 23] ty #[.slice none 0 0, .slice (some ⟨w.heap.size, 0, none⟩) 1 1]).run Tryz.prog (w.alloc (.cells #[.string ⟨#[]⟩, .string ⟨#[]⟩, .int .i64 0, .bool false, .string ⟨#[]⟩, .int .i64 0, .slice none 0 0] 26)) = .ok v' w' ∧ SF B (fun k _ => k < S) w w') := fun ty => by
      obtain ⟨v', w', h1, h2⟩ := app_sf (B := B) (T := fun k _ => k < S) (w.alloc (.cells #[.string ⟨#[]⟩, .string ⟨#[]⟩, .int .i64 0, .bool false, .string ⟨#[]⟩, .int .i64 0, .slice none 0 0] 26)) 23 ty 26 i0 _ 7 96 Tryz.underlying23 hi hz0 hz1 hz2 rfl (by decide) (.slice none 0 0) 0 ⟨[], World.ownsRow_nil _ _ _ _⟩ ⟨w.heap.size, 0, none⟩ 1 [.string ⟨#[]⟩, .string ⟨#[]⟩, .int .i64 0, .bool false, .string ⟨#[]⟩, .int .i64 0, .slice none 0 0] rfl (seven_cell _ _ _ _ _ _ _ _ _) (seven_one mg0 none 0 0) (by omega) (by omega) (by simp; omega) (fun _ h => by cases h)
      exact ⟨v', w', h1, (SF.bel ((Below.refl _ _).alloc (Nat.le_refl _) _) hB).trans h2⟩
    go_wp2_with (first
      | (at_builtin; refine wpList_append_run _ (Z := fun _ w' => SF B (fun k _ => k < S) w w') rfl _ _ 23 23 rfl _ _ rfl rfl ((unhide HAPP) _) ?_)
      | go_in)
    intro v' w1 hsf
    have HSF := hide hsf
    clear hsf HAPP
    go_wp2
    go_end0
    exact ⟨rfl, unhide HSF⟩
  · have HO : Hid (OwnE w B 26 7 (.slice (some ⟨g, 0, none⟩) qs.length cap) qs.length) := ⟨_, h.row⟩
    have HPR : Hid (∀ q ∈ qs, OwnE w B 83 4 q.2 q.1.props.length ∧ q.1.props.length ≤ 2932031007317) := fun q hq => ⟨⟨_, (h.prp q hq).1⟩, (h.prp q hq).2⟩
    have HC0 : Hid (∀ j, j < qs.length → ∃ q, qs[j]? = some q ∧ w.cell? ⟨g, j * 7 + 6, none⟩ = some q.2) := fun j hj => by
      refine ⟨qs[j], List.getElem?_eq_getElem hj, ?_⟩
      rw [h.row.cellAt (j * 7 + 6) (by omega), mrow_get qs j qs[j] (List.getElem?_eq_getElem hj) 6 (by omega)]; rfl
    have HU := hide hu
    have hgS : g < S := hu.1 g rfl
    clear h hu
    generalize hnl : qs.length = n at hn HO HC0
    have HNL := hide hnl
    clear hnl
    go_enter Tryz.func18, Tryz.ntmps18
    go_wp2
    go_loopw [2] (fun i wr => ∃ k : Nat, k ≤ n ∧ i = .int .i64 k ∧ Hid (SF B (fun k _ => k < S) w wr) ∧ Hid (∀ j, k ≤ j → j < n → ∃ q, qs[j]? = some q ∧ wr.cell? ⟨g, j * 7 + 6, none⟩ = some q.2)) (fun i _ => n - (intOf i).toNat)
    case atStart => exact ⟨0, Nat.zero_le _, rfl, SF.refl _ _ _, fun j _ hj => (unhide HC0) j hj⟩
    case round =>
      clear HC0
      obtain ⟨k, hk, rfl, HSF, HCL⟩ := hrel
      have HOr := hide ((unhide HO).sf (unhide HSF))
      by_cases hlt : k < n
      · obtain ⟨q, hq, hc6⟩ := (unhide HCL) k (Nat.le_refl _) hlt
        have hqm : q ∈ qs := List.mem_of_getElem? hq
        have hpr := (unhide HPR) q hqm
        obtain ⟨ao, pc, hs⟩ := owns_slice hpr.1.choose_spec
        have HPO := hide (hpr.1.sf (unhide HSF))
        have hpl := hpr.2
        have HUQ := hide ((unhide HU).2 q hqm)
        generalize q.1.props.length = pn at hs HPO hpl
        rw [hs] at hc6 HPO HUQ
        clear hpr hs
        have hBr : B ≤ wr.heap.size := Nat.le_trans hB (unhide HSF).size
        go_wp2_with fail
        refine (props_sp B _ pn _ hBr hpl (unhide HPO)).mono ?_
        rintro e w2 ⟨rfl, hsf2⟩
        have HSF2 : Hid (SF B (fun k _ => k < S) w w2) := (unhide HSF).trans (hsf2.weak (fun k e h => (unhide HUQ) k h.2))
        have hgb : ∃ cur, wr.heap[g]? = some (Obj.cells cur 26 (0, 0)) := (unhide HOr).blk.2
        have HGG : Hid (w2.heap[g]? = wr.heap[g]?) := by
          obtain ⟨cur, hcur⟩ := hgb
          show _ = _
          rw [hsf2.same g cur 26 hcur (fun h => absurd h.1 (by decide)), hcur]
        have HCL2 : Hid (∀ j, k ≤ j → j < n → ∃ q, qs[j]? = some q ∧ w2.cell? ⟨g, j * 7 + 6, none⟩ = some q.2) := fun j h1 h2 => by
          obtain ⟨q', hq', hc'⟩ := (unhide HCL) j h1 h2
          exact ⟨q', hq', (World.cell?_of_block (w := wr) (unhide HGG)).trans hc'⟩
        have HO2 := hide ((unhide HO).sf (unhide HSF2))
        have HG : Hid (SFg B (fun k _ => k < S) w w2 g 26) := ⟨unhide HSF2, (unhide HO2).blk.1, hgS, (unhide HO2).blk.2⟩
        obtain ⟨⟨v0, c0⟩, f0⟩ := (unhide HO2).cell (k * 7) (by omega)
        obtain ⟨⟨v1, c1⟩, f1⟩ := (unhide HO2).cell (k * 7 + 1) (by omega)
        obtain ⟨⟨v2, c2⟩, f2⟩ := (unhide HO2).cell (k * 7 + 2) (by omega)
        obtain ⟨⟨v3, c3⟩, f3⟩ := (unhide HO2).cell (k * 7 + 3) (by omega)
        obtain ⟨⟨v4, c4⟩, f4⟩ := (unhide HO2).cell (k * 7 + 4) (by omega)
        obtain ⟨⟨v5, c5⟩, f5⟩ := (unhide HO2).cell (k * 7 + 5) (by omega)
        obtain ⟨⟨v6, c6⟩, f6⟩ := (unhide HO2).cell (k * 7 + 6) (by omega)
        clear hsf2 hgb HGG HSF2 hc6
        go_wp2
        go_roundw
        case rel => exact ⟨k + 1, by omega, by go_num, (((((((((unhide HG).set _ _).set _ _).set _ _).set _ _).set _ _).set _ _).set _ _)).1, fun j h1 h2 => by
          obtain ⟨q', hq', hc'⟩ := (unhide HCL2) j (by omega) h2
          refine ⟨q', hq', ?_⟩
          rw [World.cell?_setCell_other _ _ _ _ (by simp <;> omega), World.cell?_setCell_other _ _ _ _ (by simp <;> omega), World.cell?_setCell_other _ _ _ _ (by simp <;> omega), World.cell?_setCell_other _ _ _ _ (by simp <;> omega), World.cell?_setCell_other _ _ _ _ (by simp <;> omega), World.cell?_setCell_other _ _ _ _ (by simp <;> omega), World.cell?_setCell_other _ _ _ _ (by simp <;> omega)]
          exact hc'⟩
        case measure => simp [intOf]; omega
      · have HAPP : Hid (∀ ty, ∃ v' w', (Builtin.append_ #[23, 23] ty #[.slice (some ⟨g, 0, none⟩) n cap, .slice (some ⟨wr.heap.size, 0, none⟩) 1 1]).run Tryz.prog (wr.alloc (.cells #[.string ⟨#[]⟩, .string ⟨#[]⟩, .int .i64 0, .bool false, .string ⟨#[]⟩, .int .i64 0, .slice none 0 0] 26)) = .ok v' w' ∧ SF B (fun k _ => k < S) w w') := fun ty => by
          obtain ⟨xs, hx⟩ := unhide HOr
          obtain ⟨v', w', h1, h2⟩ := app_sf (B := B) (T := fun k _ => k < S) (wr.alloc (.cells #[.string ⟨#[]⟩, .string ⟨#[]⟩, .int .i64 0, .bool false, .string ⟨#[]⟩, .int .i64 0, .slice none 0 0] 26)) 23 ty 26 i0 _ 7 96 Tryz.underlying23 hi hz0 hz1 hz2 rfl (by decide) (.slice (some ⟨g, 0, none⟩) n cap) n ⟨xs, hx.alloc _⟩ ⟨wr.heap.size, 0, none⟩ 1 [.string ⟨#[]⟩, .string ⟨#[]⟩, .int .i64 0, .bool false, .string ⟨#[]⟩, .int .i64 0, .slice none 0 0] rfl (seven_cell _ _ _ _ _ _ _ _ _) (seven_one mg0 none 0 0) (by omega) (by omega) (by have := (unhide HSF).size; simp; omega) (fun g' h => by cases h; exact hgS)
          exact ⟨v', w', h1, ((unhide HSF).trans (SF.bel ((Below.refl _ _).alloc (Nat.le_refl _) _) (Nat.le_trans hB (unhide HSF).size))).trans h2⟩
        clear HOr
        go_wp2_with (first
          | (at_builtin; refine wpList_append_run _ (Z := fun _ w' => SF B (fun k _ => k < S) w w') rfl _ _ 23 23 rfl _ _ rfl rfl ((unhide HAPP) _) ?_)
          | go_in)
        intro v' w1 hsf
        have HSF1 := hide hsf
        clear hsf HAPP
        go_wp2
        go_end0
        exact ⟨rfl, unhide HSF1⟩
end Go.Proofs.YtknbgnoahfeigaaGreatDoor.M
