/- Proved here: dovecoteref0.CopyEntries: memory of their own; dovecotelaw0.Entries, handed a row of the caller's own, writes into that alone. Helper contracts. -/
import Derived.Test.YtmmhdhpocjnlbaaGreatDoorZNEn
namespace Go.Proofs.YtmmhdhpocjnlbaaGreatDoor.Nt
open Go.RowKit
set_option maxRecDepth 100000

theorem ecs_one (l : List En) : ∀ u ∈ ecs l, u.oneCell' = true := by
  intro u hu
  unfold ecs at hu
  rw [List.mem_flatMap] at hu
  obtain ⟨p, _, hp⟩ := hu
  simp at hp
  rcases hp with rfl | rfl | rfl | rfl <;> rfl
theorem ecs_cell {w : World} {b off : Nat} {l : List En} (h : EnAt w b off l) : ∀ j u, (ecs l)[j]? = some u → w.cell? ((⟨b, off, none⟩ : Addr).add j) = some u := by
  intro j u hj
  have hjl := (List.getElem?_eq_some_iff.1 hj).1
  rw [ecs_length] at hjl
  have hk : j / 4 < l.length := by omega
  obtain ⟨g0, g1, g2, g3⟩ := ecs_get l (j / 4) hk
  obtain ⟨h0, h1, h2, h3⟩ := h (j / 4) hk
  have ea : (⟨b, off, none⟩ : Addr).add j = ⟨b, off + j, none⟩ := by simp [Addr.add]
  rw [ea]
  have hm : j % 4 = 0 ∨ j % 4 = 1 ∨ j % 4 = 2 ∨ j % 4 = 3 := by omega
  rcases hm with e | e | e | e
  · have ej : j = j / 4 * 4 := by omega
    rw [← ej] at g0 h0
    rw [h0, ← hj, g0]
  · have ej : j = j / 4 * 4 + 1 := by omega
    rw [← ej] at g1
    rw [Nat.add_assoc, ← ej] at h1
    rw [h1, ← hj, g1]
  · have ej : j = j / 4 * 4 + 2 := by omega
    rw [← ej] at g2
    rw [Nat.add_assoc, ← ej] at h2
    rw [h2, ← hj, g2]
  · have ej : j = j / 4 * 4 + 3 := by omega
    rw [← ej] at g3
    rw [Nat.add_assoc, ← ej] at h3
    rw [h3, ← hj, g3]
theorem cope_own (v : Value) (l : List En) (w : World) (h : Ens w v l) (hmx : l.length ≤ 3518437208780) : Calls Tryz.prog 22 #[v] w fun e w' => ∃ v, e = .returned v ∧ Hid (w'.ownsRow w.heap.size 56 4 v l.length (ecs l)) ∧ Below w.heap.size w w' := by
  obtain ⟨ao, cap, rfl, hc⟩ := h
  rcases hc with rfl | ⟨b, off, rfl, hc⟩
  · refine (cope_nil ao cap w).mono ?_
    rintro e w' ⟨rfl, rfl⟩
    exact ⟨_, rfl, World.ownsRow_nil _ _ _ _, Below.refl _ _⟩
  · exact cope_core b off cap l _ w rfl hmx hc
theorem wpList_append_run (w : World) {ops : Array Oper} {rest : List Oper} {o : Oper} {a : Act} {Q : Exit → Act → World → Prop} {Z : Value → World → Prop} (hgd : o.guard = none) (s x : Operand) (t u : TypeId)
    (ho : o.op = .call { callee := .builtin .append, args := #[s, x], argTypes := #[t, u] }) (v vx : Value) (hs : a.eval s = v) (hx : a.eval x = vx)
    (hr : ∃ v' w', (Builtin.append_ #[t, u] o.type #[v, vx]).run Tryz.prog w = .ok v' w' ∧ Z v' w')
    (h : ∀ v' w', Z v' w' → wpList Tryz.prog ops Q rest (a.put o.dst v') w') : wpList Tryz.prog ops Q (o :: rest) a w := by
  refine wpList_plain hgd fun K hK => ?_
  obtain ⟨v', w', hr, h2⟩ := hr
  unfold Oper.wp execOp
  simp only [ho, resolve, invoke, builtin, Sem.run_bind, Sem.run_pure, Result.andThen_ok, List.map_toArray, List.map_cons, List.map_nil, hs, hx, hr]
  exact hK _ _ (h v' w' h2)
/-- blocks of which T says so may hold other cells, as many as before; all other blocks are as they were -/
structure SF (T : Nat → Prop) (w w' : World) : Prop where
  fr : Fr T w w'
  shp : ∀ (k : Nat) (cur : Array Value) (e : TypeId), w.heap[k]? = some (Obj.cells cur e (0, 0)) → ∃ cur', w'.heap[k]? = some (Obj.cells cur' e (0, 0)) ∧ cur'.size = cur.size
theorem SF.refl (T : Nat → Prop) (w : World) : SF T w w := ⟨Fr.refl _ _, fun _ cur _ h => ⟨cur, h, rfl⟩⟩
theorem SF.trans {T : Nat → Prop} {a b c : World} (h : SF T a b) (k : SF T b c) : SF T a c :=
  ⟨h.fr.trans k.fr, fun i cur e h1 => by
    obtain ⟨cur1, h2, h3⟩ := h.shp i cur e h1
    obtain ⟨cur2, h4, h5⟩ := k.shp i cur1 e h2
    exact ⟨cur2, h4, h5.trans h3⟩⟩
theorem SF.weak {T T' : Nat → Prop} {a b : World} (h : SF T a b) (ht : ∀ k, T k → T' k) : SF T' a b := ⟨h.fr.weak ht, h.shp⟩
theorem SF.bel {T : Nat → Prop} {a b : World} (h : Below a.heap.size a b) : SF T a b := ⟨Fr.of_below h, fun k cur _ hk => ⟨cur, (h.block k (Array.getElem?_eq_some_iff.1 hk).1).trans hk, rfl⟩⟩
theorem SF.set {T : Nat → Prop} {a b : World} (h : SF T a b) (g j : Nat) (u : Value) (ht : T g) : SF T a (b.setCell ⟨g, j, none⟩ u) :=
  h.trans ⟨set_fr ht, fun k cur' e' h1 => by
    by_cases hk : k = g
    · subst hk
      refine ⟨cur'.setIfInBounds j u, ?_, by simp⟩
      unfold World.setCell
      simp [Array.getElem?_modify, h1]
    · exact ⟨cur', (Below.heap_setCell _ _ _ _ hk).trans h1, rfl⟩⟩
/-- a row of one's own, whatever it holds -/
def OwnE (w : World) (B : Nat) (e : TypeId) (s : Nat) (v : Value) (n : Nat) : Prop := ∃ xs, w.ownsRow B e s v n xs
theorem OwnE.sf {w w' : World} {B : Nat} {e : TypeId} {s : Nat} {v : Value} {n : Nat} {T : Nat → Prop} (h : OwnE w B e s v n) (k : SF T w w') : OwnE w' B e s v n := by
  obtain ⟨xs, h1, h2⟩ := h
  rcases h2 with h2 | ⟨g, cap, cur, rfl, hB, hg, h3, h4, h5, h6⟩
  · exact ⟨xs, h1, .inl h2⟩
  · obtain ⟨cur', k1, k2⟩ := k.shp g cur e hg
    refine ⟨cur'.toList.take (n * s), ?_, .inr ⟨g, cap, cur', rfl, hB, k1, h3, h4, k2.trans h5, rfl⟩⟩
    rw [List.length_take, Array.length_toList, k2, h5]
    exact Nat.min_eq_left (Nat.mul_le_mul_right _ h3)
theorem OwnE.cell {w : World} {B : Nat} {e : TypeId} {s g n cap : Nat} (h : OwnE w B e s (.slice (some ⟨g, 0, none⟩) n cap) n) (i : Nat) (hi : i < n * s) : (∃ v, w.cell? ⟨g, i, none⟩ = some v) ∧ w.frozen? ⟨g, i, none⟩ = false := by
  obtain ⟨xs, h⟩ := h
  have hl : xs.length = n * s := h.1
  exact ⟨⟨_, by rw [h.cellAt i (by omega), List.getElem?_eq_getElem (by omega)]⟩, h.frozenAt i⟩
theorem OwnE.blk {w : World} {B : Nat} {e : TypeId} {s g n cap : Nat} (h : OwnE w B e s (.slice (some ⟨g, 0, none⟩) n cap) n) : B ≤ g ∧ ∃ cur, w.heap[g]? = some (Obj.cells cur e (0, 0)) := by
  obtain ⟨xs, h1, h2⟩ := h
  rcases h2 with ⟨h2, _⟩ | ⟨g', cap', cur, e', hB, hg, _⟩
  · cases h2
  · cases e'
    exact ⟨hB, cur, hg⟩
/-- append of one onto a row of one's own -/
theorem app_sf {B : Nat} {T : Nat → Prop} (w : World) (t ty e : TypeId) (i : TypeInfo) (z : Value) (size bytes : Nat) (ht : Tryz.prog.underlying t = some (.slice e)) (hi : Tryz.prog.info? e = some i) (hz : i.zero = some z) (hsize : i.size = size) (hby : i.bytes = bytes) (hzs : z.cells.size = size) (hsz : 0 < size)
    (v : Value) (n : Nat) (hown : OwnE w B e size v n) (a : Addr) (c : Nat) (news : List Value) (hl : news.length = 1 * size) (hnews : ∀ j u, news[j]? = some u → w.cell? (a.add j) = some u) (h1 : ∀ u ∈ news, u.oneCell' = true) (hn : n ≤ 17592186043904) (hbb : (n + 1) * bytes ≤ 140737488355328) (hB : B ≤ w.heap.size) (hT : ∀ g, v.ownBlock = some g → T g) :
    ∃ v' w', (Builtin.append_ #[t, t] ty #[v, .slice (some a) 1 c]).run Tryz.prog w = .ok v' w' ∧ SF T w w' := by
  subst hsize
  subst hby
  have hbytes : (n + 1) * i.bytes ≤ 140737488355328 := hbb
  obtain ⟨xs, hown⟩ := hown
  rcases hown.2 with ⟨rfl, rfl⟩ | ⟨g, cap, cur, rfl, hbg, hg, hnc, hcm, hcs, htake⟩
  · obtain ⟨v', w', k1, k2, k3, _⟩ := run_append_own (P := Tryz.prog) (w := w) B t ty e i z i.size i.bytes ht hi hz rfl rfl hzs hsz _ 0 xs hown a 1 c news hl hnews h1 (by unfold maxLen; omega) hbytes hB
    exact ⟨v', w', k1, SF.bel ⟨k3.os, k3.tape, k3.output, k3.size, fun k hk => k3.block k hk (by simp [Value.ownBlock])⟩⟩
  · by_cases hroom : n + 1 ≤ cap
    · have hfit : n * i.size + news.length ≤ cur.size := by rw [hl, hcs, ← Nat.add_mul]; exact Nat.mul_le_mul_right _ hroom
      have hr := run_append_room (P := Tryz.prog) w t ty e i ht hi g n cap cur hg a 1 c news hl hnews h1 hroom hfit
      refine ⟨_, _, hr, ⟨⟨rfl, rfl, rfl, by simp, fun k hk h4 => setRow_other w g k _ (fun e => h4 (e ▸ hT _ rfl))⟩, fun k cur' e' h3 => ?_⟩⟩
      by_cases hk : k = g
      · subst hk
        rw [hg] at h3
        cases h3
        refine ⟨_, setRow_heap w k cur _ e _ hg, ?_⟩
        simp only [List.size_toArray, List.length_append, List.length_take, List.length_drop, Array.length_toList]
        omega
      · exact ⟨cur', (setRow_other w g k _ hk).trans h3, rfl⟩
    · have holds : ∀ j u, xs[j]? = some u → w.cell? ((⟨g, 0, none⟩ : Addr).add j) = some u := hown.cells (g := g) rfl
      have hr := run_append_grow (P := Tryz.prog) w t ty e i z ht hi hz ⟨g, 0, none⟩ n cap xs hown.1 holds a 1 c news hl hnews (by omega) (by omega) (growslice_fits (by omega) hbytes)
      exact ⟨_, _, hr, SF.bel ⟨rfl, rfl, rfl, by simp, fun k hk => heap_alloc_old w.drew _ hk⟩⟩
set_option maxHeartbeats 2000000 in
theorem entries_sp (B : Nat) (v : Value) (n : Nat) (w : World) (hB : B ≤ w.heap.size) (hn : n ≤ 3518437208780) (h : OwnE w B 56 4 v n) : Calls Tryz.prog 13 #[v] w fun e w' => e = .returned (.tuple #[]) ∧ SF (fun k => v.ownBlock = some k) w w' := by
  obtain ⟨i0, hi, hz0, hz1, hz2⟩ := info_parts infoEnt
  have hv : (v = .slice none 0 0 ∧ n = 0) ∨ ∃ g cap, v = .slice (some ⟨g, 0, none⟩) n cap := by
    obtain ⟨xs, h⟩ := h
    rcases h.2 with h1 | ⟨g, cap, _, h1, _⟩
    · exact .inl h1
    · exact .inr ⟨g, cap, h1⟩
  rcases hv with ⟨rfl, rfl⟩ | ⟨g, cap, rfl⟩
  · clear h
    go_enter Tryz.func13, Tryz.ntmps13
    go_wp2
    refine wp_loop_rounds 1 ?_
    rw [rounds_succ]
    have HAPP : Hid (∀ ty, ∃ v' w', (Builtin.append_ #[24, 24] ty #[.slice none 0 0, .slice (some ⟨w.heap.size, 0, none⟩) 1 1]).run Tryz.prog (w.alloc (.cells #[.int .i64 0, .int .i64 0, .int .i64 0, .string ⟨#[]⟩] 56)) = .ok v' w' ∧ SF (fun k => (Value.slice none 0 0).ownBlock = some k) w w') := fun ty => by
      obtain ⟨v', w', h1, h2⟩ := app_sf (B := B) (T := fun k => (Value.slice none 0 0).ownBlock = some k) (w.alloc (.cells #[.int .i64 0, .int .i64 0, .int .i64 0, .string ⟨#[]⟩] 56)) 24 ty 56 i0 _ 4 40 Tryz.underlying24 hi hz0 hz1 hz2 rfl (by decide) (.slice none 0 0) 0 ⟨[], World.ownsRow_nil _ _ _ _⟩ ⟨w.heap.size, 0, none⟩ 1 [.int .i64 0, .int .i64 0, .int .i64 0, .string ⟨#[]⟩] rfl (four_cell _ _ _ _ _ _) (four_one _ _ _ _) (by omega) (by omega) (by simp; omega) (fun _ h => h)
      exact ⟨v', w', h1, (SF.bel ((Below.refl _ _).alloc (Nat.le_refl _) _)).trans h2⟩
    go_wp2_with (first
      | (at_builtin; refine wpList_append_run _ (Z := fun _ w' => SF (fun k => (Value.slice none 0 0).ownBlock = some k) w w') rfl _ _ 24 24 rfl _ _ rfl rfl ((unhide HAPP) _) ?_)
      | go_in)
    intro v' w1 hsf
    have HSF := hide hsf
    clear hsf HAPP
    go_wp2
    go_end0
    exact ⟨rfl, unhide HSF⟩
  · have HO := hide h
    clear h
    go_enter Tryz.func13, Tryz.ntmps13
    go_wp2
    go_loopw [2] (fun i wr => ∃ k : Nat, k ≤ n ∧ i = .int .i64 k ∧ Hid (SF (fun k => (Value.slice (some ⟨g, 0, none⟩) n cap).ownBlock = some k) w wr)) (fun i _ => n - (intOf i).toNat)
    case atStart => exact ⟨0, Nat.zero_le _, rfl, SF.refl _ _⟩
    case round =>
      obtain ⟨k, hk, rfl, HSF⟩ := hrel
      have HOr := hide ((unhide HO).sf (unhide HSF))
      by_cases hlt : k < n
      · have HG := HSF
        obtain ⟨⟨v0, c0⟩, f0⟩ := (unhide HOr).cell (k * 4) (by omega)
        obtain ⟨⟨v1, c1⟩, f1⟩ := (unhide HOr).cell (k * 4 + 1) (by omega)
        obtain ⟨⟨v2, c2⟩, f2⟩ := (unhide HOr).cell (k * 4 + 2) (by omega)
        obtain ⟨⟨v3, c3⟩, f3⟩ := (unhide HOr).cell (k * 4 + 3) (by omega)
        go_wp2
        go_roundw
        case rel => exact ⟨k + 1, by omega, by go_num, ((((unhide HG).set g _ _ rfl).set g _ _ rfl).set g _ _ rfl).set g _ _ rfl⟩
        case measure => simp [intOf]; omega
      · have HAPP : Hid (∀ ty, ∃ v' w', (Builtin.append_ #[24, 24] ty #[.slice (some ⟨g, 0, none⟩) n cap, .slice (some ⟨wr.heap.size, 0, none⟩) 1 1]).run Tryz.prog (wr.alloc (.cells #[.int .i64 0, .int .i64 0, .int .i64 0, .string ⟨#[]⟩] 56)) = .ok v' w' ∧ SF (fun k => (Value.slice (some ⟨g, 0, none⟩) n cap).ownBlock = some k) w w') := fun ty => by
          obtain ⟨xs, hx⟩ := unhide HOr
          obtain ⟨v', w', h1, h2⟩ := app_sf (B := B) (T := fun k => (Value.slice (some ⟨g, 0, none⟩) n cap).ownBlock = some k) (wr.alloc (.cells #[.int .i64 0, .int .i64 0, .int .i64 0, .string ⟨#[]⟩] 56)) 24 ty 56 i0 _ 4 40 Tryz.underlying24 hi hz0 hz1 hz2 rfl (by decide) (.slice (some ⟨g, 0, none⟩) n cap) n ⟨xs, hx.alloc _⟩ ⟨wr.heap.size, 0, none⟩ 1 [.int .i64 0, .int .i64 0, .int .i64 0, .string ⟨#[]⟩] rfl (four_cell _ _ _ _ _ _) (four_one _ _ _ _) (by omega) (by omega) (by have := (unhide HSF).fr.size; simp; omega) (fun _ h => h)
          exact ⟨v', w', h1, ((unhide HSF).trans (SF.bel ((Below.refl _ _).alloc (Nat.le_refl _) _))).trans h2⟩
        clear HOr
        go_wp2_with (first
          | (at_builtin; refine wpList_append_run _ (Z := fun _ w' => SF (fun k => (Value.slice (some ⟨g, 0, none⟩) n cap).ownBlock = some k) w w') rfl _ _ 24 24 rfl _ _ rfl rfl ((unhide HAPP) _) ?_)
          | go_in)
        intro v' w1 hsf
        have HSF1 := hide hsf
        clear hsf HAPP
        go_wp2
        go_end0
        exact ⟨rfl, unhide HSF1⟩
end Go.Proofs.YtmmhdhpocjnlbaaGreatDoor.Nt
