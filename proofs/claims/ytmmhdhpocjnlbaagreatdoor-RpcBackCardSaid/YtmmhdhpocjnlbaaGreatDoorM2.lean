/- Proved here: helpers, one text behind the other. -/
import Derived.Test.YtmmhdhpocjnlbaaGreatDoorZECo
/- Proved here: slices.Concat of lists of entries: memory of its own. Helper contracts. -/
namespace Go.Proofs.YtmmhdhpocjnlbaaGreatDoor.Et
open Go.RowKit Nt
set_option maxRecDepth 100000

structure Sl where
  a : Option Addr
  n : Nat
  c : Nat
/-- lists in a row -/
def RowsE (w : World) (g m : Nat) (f : Nat → Sl) (ls : List (List En)) : Prop := ls.length = m ∧ ∀ i, i < m → w.cell? ⟨g, i, none⟩ = some (.slice (f i).a (f i).n (f i).c) ∧ Es w (f i).a (f i).n (f i).c (ls.getD i [])
theorem RowsE.below {w w' : World} {g m : Nat} {f : Nat → Sl} {ls : List (List En)} (h : RowsE w g m f ls) (hb : Below w.heap.size w w') : RowsE w' g m f ls := ⟨h.1, fun i hi => ⟨(hb.cell (cell_lt (h.2 i hi).1)).trans (h.2 i hi).1, (h.2 i hi).2.below hb⟩⟩
theorem flat_snocE (ls : List (List En)) (k : Nat) (h : k < ls.length) : (ls.take (k + 1)).flatten = (ls.take k).flatten ++ ls.getD k [] := by
  rw [List.take_add_one, List.getElem?_eq_getElem h, List.flatten_append, List.getD_eq_getElem?_getD, List.getElem?_eq_getElem h]
  simp
theorem take_flat_leE (ls : List (List En)) (k : Nat) : (ls.take k).flatten.length ≤ ls.flatten.length := by
  have h : ls.flatten = (ls.take k).flatten ++ (ls.drop k).flatten := by rw [← List.flatten_append, List.take_append_drop]
  rw [h, List.length_append]
  omega
set_option maxHeartbeats 8000000 in
theorem concat_any (g m cap : Nat) (f : Nat → Sl) (ls : List (List En)) (w : World) (hm : m ≤ 4) (hmx : ls.flatten.length ≤ 1000000) (hr : RowsE w g m f ls) :
    Calls Tryz.prog 83 #[.slice (some ⟨g, 0, none⟩) m cap] w fun e w' => ∃ v, e = .returned v ∧ Hid (w'.ownsRow w.heap.size 56 4 v ls.flatten.length (ecs ls.flatten)) ∧ Hid (Below w.heap.size w w') := by
  obtain ⟨i0, hi, hz0, hz1, hz2⟩ := info_parts infoEnt
  have HR := hide hr
  have HMX := hide hmx
  clear hr hmx
  go_enter Tryz.func83, Tryz.ntmps83
  go_wp2
  go_loopw [3, 11] (fun sz i wr => ∃ k : Nat, k ≤ m ∧ i = .int .i64 k ∧ sz = .int .i64 ((ls.take k).flatten.length : Nat) ∧ wr = w) (fun _ i _ => m - (intOf i).toNat)
  case atStart => exact ⟨0, Nat.zero_le _, rfl, rfl, rfl⟩
  case round =>
    obtain ⟨k, hk, rfl, rfl, hw⟩ := hrel
    obtain rfl := hw.symm
    by_cases hlt : k < m
    · obtain ⟨c0, he⟩ := (unhide HR).2 k hlt
      have HF := hide (flat_snocE ls k (by rw [(unhide HR).1]; exact hlt))
      have hle := take_flat_leE ls (k + 1)
      have HMX2 := unhide HMX
      rw [unhide HF, List.length_append] at hle
      have hl1 := he.1
      generalize (f k).a = ao at c0 he
      generalize hn : (f k).n = n at c0 he hl1
      generalize (f k).c = c at c0 he
      have HL : Hid ((ls.take (k + 1)).flatten.length = (ls.take k).flatten.length + n) := by
        show _ = _
        rw [unhide HF, List.length_append, hl1]
      rw [hl1] at hle
      generalize (ls.take k).flatten.length = N at hle HL
      clear he hl1 hn
      go_wp2
      go_roundw
      case rel => exact ⟨k + 1, by omega, by go_num, by rw [unhide HL]; go_num, by first | rfl | trivial⟩
      case measure => simp [intOf]; omega
    · obtain rfl : m = k := by omega
      rw [List.take_of_length_le (Nat.le_of_eq (unhide HR).1)]
      obtain ⟨N, hN⟩ : ∃ N, N = ls.flatten.length := ⟨_, rfl⟩
      rw [← hN]
      have hNx : N ≤ 1000000 := by rw [hN]; exact unhide HMX
      have HN := hide hN
      clear hN HMX
      go_wp2_with fail
      refine (grow_nil N _ hNx).mono ?_
      rintro e w1 ⟨v0, rfl, HO1, HB1⟩
      go_wp2
      go_loopw [6, 27] (fun v i wr => ∃ k : Nat, k ≤ m ∧ i = .int .i64 k ∧ Hid (wr.ownsRow w.heap.size 56 4 v (ls.take k).flatten.length (ecs (ls.take k).flatten)) ∧ Hid (Below w.heap.size w wr)) (fun _ i _ => m - (intOf i).toNat)
      case atStart => exact ⟨0, Nat.zero_le _, rfl, unhide HO1, HB1⟩
      case round =>
        obtain ⟨k, hk, rfl, HO, HB⟩ := hrel
        by_cases hlt : k < m
        · obtain ⟨c0, he⟩ := ((unhide HR).below (unhide HB)).2 k hlt
          have HF := hide (flat_snocE ls k (by rw [(unhide HR).1]; exact hlt))
          have hle := take_flat_leE ls (k + 1)
          rw [← unhide HN, unhide HF, List.length_append] at hle
          have hl1 := he.1
          generalize (f k).a = ao at c0 he
          generalize (f k).n = n at c0 he hl1
          generalize (f k).c = c at c0 he
          rw [hl1] at hle
          have HCI := hide he.cin
          have hsz := (unhide HB).size
          have HEC : Hid (ecs (ls.take (k + 1)).flatten = ecs (ls.take k).flatten ++ ecs (ls.getD k []) ∧ (ls.take (k + 1)).flatten.length = (ls.take k).flatten.length + n) := ⟨by rw [unhide HF, ecs_app], by rw [unhide HF, List.length_append, hl1]⟩
          generalize ls.getD k [] = lk at HCI HEC
          generalize (ls.take k).flatten = Fk at HO HEC hle
          have H1 := hide (ecs_one lk)
          clear he hl1 HF
          go_wp2_with (first
            | (at_builtin; refine wpList_app_c _ rfl _ _ 24 rfl w.heap.size 56 i0 _ 4 40 Tryz.underlying24 hi hz0 hz1 hz2 rfl (by decide) _ _ _ n _ (ecs lk) rfl rfl (unhide HO) (unhide HCI) (unhide H1) (by unfold maxLen; omega) (by omega) (by omega) ?_)
            | go_in)
          intro v' w2 hown hgrow _
          have HO2 : Hid (w2.ownsRow w.heap.size 56 4 v' (ls.take (k + 1)).flatten.length (ecs (ls.take (k + 1)).flatten)) := by
            show World.ownsRow _ _ _ _ _ _ _
            rw [(unhide HEC).1, (unhide HEC).2]; exact hown
          have HB2 : Hid (Below w.heap.size w w2) := (unhide HB).grown hgrow hsz (fun k hk => ((unhide HO).lt k hk).1)
          clear hown hgrow
          go_wp2
          go_roundw
          case rel => exact ⟨k + 1, by omega, by go_num, HO2, HB2⟩
          case measure => simp [intOf]; omega
        · obtain rfl : m = k := by omega
          have HO2 : Hid (wr.ownsRow w.heap.size 56 4 u6 ls.flatten.length (ecs ls.flatten)) := by
            have := unhide HO
            rw [List.take_of_length_le (Nat.le_of_eq (unhide HR).1)] at this
            exact this
          go_wp2
          go_ret
          exact ⟨_, rfl, HO2, HB⟩
end Go.Proofs.YtmmhdhpocjnlbaaGreatDoor.Et
/- Proved here: entries.made and own: a log in memory of its own. Helper contracts. -/
namespace Go.Proofs.YtmmhdhpocjnlbaaGreatDoor.Et
open Go.RowKit Nt
set_option maxRecDepth 100000

theorem res_l {fn : Func} {a : Tmp} (h : fn.results = #[.cell a 85]) {tmps : Array Value} {w : World} {B : Nat} {v0 v1 v2 : Value} (ha : tmps[a]?.getD undef = .pointer (some ⟨B, 0, none⟩)) (hb : Bx w B [v0, v1, v2] 85) :
    (results fn tmps).run Tryz.prog w = .ok (.agg #[v0, v1, v2]) w := by
  have c0 := hb.cell 0 v0 rfl
  have c1 := hb.cell 1 v1 rfl
  have c2 := hb.cell 2 v2 rfl
  simp [results, h, ha, go_sem, c0, c1, c2]
theorem res_le {fn : Func} {a t : Tmp} (h : fn.results = #[.cell a 85, .tmp t]) {tmps : Array Value} {w : World} {B : Nat} {v0 v1 v2 : Value} (ha : tmps[a]?.getD undef = .pointer (some ⟨B, 0, none⟩)) (hb : Bx w B [v0, v1, v2] 85) :
    (results fn tmps).run Tryz.prog w = .ok (.tuple #[.agg #[v0, v1, v2], tmps[t]?.getD undef]) w := by
  have c0 := hb.cell 0 v0 rfl
  have c1 := hb.cell 1 v1 rfl
  have c2 := hb.cell 2 v2 rfl
  simp [results, h, ha, go_sem, c0, c1, c2]
theorem res_lme {fn : Func} {a t u : Tmp} (h : fn.results = #[.cell a 85, .tmp t, .tmp u]) {tmps : Array Value} {w : World} {B : Nat} {v0 v1 v2 : Value} (ha : tmps[a]?.getD undef = .pointer (some ⟨B, 0, none⟩)) (hb : Bx w B [v0, v1, v2] 85) :
    (results fn tmps).run Tryz.prog w = .ok (.tuple #[.agg #[v0, v1, v2], tmps[t]?.getD undef, tmps[u]?.getD undef]) w := by
  have c0 := hb.cell 0 v0 rfl
  have c1 := hb.cell 1 v1 rfl
  have c2 := hb.cell 2 v2 rfl
  simp [results, h, ha, go_sem, c0, c1, c2]
/-- three cells set -/
def put3 (w : World) (R : Nat) (x y z : Value) : World := ((w.setCell ⟨R, 0, none⟩ x).setCell ⟨R, 1, none⟩ y).setCell ⟨R, 2, none⟩ z
theorem put3_bx {w : World} {R : Nat} {a b c : Value} {t : TypeId} (h : Bx w R [a, b, c] t) (x y z : Value) : Bx (put3 w R x y z) R [x, y, z] t :=
  ((h.set 0 x (by simp)).set 1 y (by simp)).set 2 z (by simp)
theorem put3_fr (w : World) (R : Nat) (x y z : Value) : Fr (fun k => k = R) w (put3 w R x y z) := ((set_fr (F := fun k => k = R) rfl).trans (set_fr (F := fun k => k = R) rfl)).trans (set_fr (F := fun k => k = R) rfl)
theorem put3_below {w0 w : World} {R : Nat} {x y z : Value} (h : Below w0.heap.size w0 w) (hR : w0.heap.size ≤ R) : Below w0.heap.size w0 (put3 w R x y z) := Fr.bel h (put3_fr w R x y z) (fun i hi => by omega) h.size
theorem put3_owns {w : World} {R B : Nat} {x y z : Value} {e : TypeId} {s n : Nat} {v : Value} {xs : List Value} (h : w.ownsRow B e s v n xs) (hR : R < B) : (put3 w R x y z).ownsRow B e s v n xs := owns_fr h (put3_fr w R x y z) (fun g hg => by have := (owns_blk h g hg).1; omega)
set_option maxHeartbeats 4000000 in
theorem made_any (b t : Int) (g m cap : Nat) (f : Nat → Sl) (ls : List (List En)) (l : List En) (N : Nat) (w : World) (hm : m ≤ 4) (hl : ls.flatten = l) (hN : l.length = N) (hmx : N ≤ 1000000) (hr : RowsE w g m f ls) :
    Calls Tryz.prog 77 #[.int .i64 b, .int .i64 t, .slice (some ⟨g, 0, none⟩) m cap] w fun e w' => ∃ ao c, e = .returned (.agg #[.int .i64 b, .int .i64 t, .slice ao N c]) ∧ Hid (w'.ownsRow w.heap.size 56 4 (.slice ao N c) N (ecs l)) ∧ Hid (Below w.heap.size w w') := by
  have HB : Hid (Below w.heap.size w (w.alloc (.cells #[.int .i64 0, .int .i64 0, .slice none 0 0] 85))) := (Below.refl _ _).alloc (Nat.le_refl _) _
  have HX : Hid (Bx (w.alloc (.cells #[.int .i64 0, .int .i64 0, .slice none 0 0] 85)) w.heap.size [.int .i64 0, .int .i64 0, .slice none 0 0] 85) := Bx.new w _ _ _ rfl
  have HR := hide (hr.below (unhide HB))
  clear hr
  subst hl
  go_enter Tryz.func77, Tryz.ntmps77
  go_wp2_with fail
  refine (concat_any g m cap f ls _ hm (by rw [hN]; exact hmx) (unhide HR)).mono ?_
  rintro e w2 ⟨v, rfl, HO, HB2⟩
  rw [hN] at HO
  obtain ⟨ao, c, rfl⟩ := owns_slice (unhide HO)
  have HX2 := hide ((unhide HX).below (unhide HB2))
  have f0 := (unhide HX2).frz 0
  have f1 := (unhide HX2).frz 1
  have f2 := (unhide HX2).frz 2
  have c0 := (unhide HX2).cell 0 _ rfl
  have c1 := (unhide HX2).cell 1 _ rfl
  have c2 := (unhide HX2).cell 2 _ rfl
  go_wp2
  refine bodyPost_ret (res_l (B := w.heap.size) rfl rfl (put3_bx (unhide HX2) _ _ _)) rfl ?_
  exact ⟨_, _, rfl, owns_mono (put3_owns (unhide HO) (by simp)) (by simp), put3_below (bnx (unhide HB) (unhide HB2)) (Nat.le_refl _)⟩
end Go.Proofs.YtmmhdhpocjnlbaaGreatDoor.Et
/- Proved here: entries.own: a log in memory of its own. Helper contracts. -/
namespace Go.Proofs.YtmmhdhpocjnlbaaGreatDoor.Et
open Go.RowKit Nt
set_option maxRecDepth 100000

def zl : List Value := [.int .i64 0, .int .i64 0, .slice none 0 0]
/-- a slot for a log that a call tells -/
theorem bx_slot {w : World} {R : Nat} {a b c : Value} {t : TypeId} (h : Bx w R [a, b, c] t) : (w.cell? ⟨R, 0, none⟩ = some a ∧ w.cell? ⟨R, 1, none⟩ = some b ∧ w.cell? ⟨R, 2, none⟩ = some c) ∧ w.frozen? ⟨R, 0, none⟩ = false ∧ w.frozen? ⟨R, 1, none⟩ = false ∧ w.frozen? ⟨R, 2, none⟩ = false :=
  ⟨⟨h.cell 0 _ rfl, h.cell 1 _ rfl, h.cell 2 _ rfl⟩, h.frz 0, h.frz 1, h.frz 2⟩
/-- the log, in memory of its own, as a call tells it -/
def OwnL (w : World) (B : Nat) (L : Lo) (ao : Option Addr) (n c : Nat) : Prop := w.ownsRow B 56 4 (.slice ao n c) n (ecs L.es) ∧ L.es.length = n ∧ n ≤ 1000000
theorem OwnL.es {w : World} {B : Nat} {L : Lo} {ao : Option Addr} {n c : Nat} (h : OwnL w B L ao n c) : Es w ao n c L.es := by
  obtain ⟨a', c', e, h2⟩ := Es.own h.1 h.2.1 (by have := h.2.2; omega)
  simp only [Value.slice.injEq] at e
  obtain ⟨rfl, _, rfl⟩ := e
  exact h2
theorem OwnL.below {w w' : World} {B : Nat} {L : Lo} {ao : Option Addr} {n c : Nat} (h : OwnL w B L ao n c) (hb : Below w.heap.size w w') : OwnL w' B L ao n c := ⟨owns_below h.1 hb, h.2⟩
theorem OwnL.mono {w : World} {B B' : Nat} {L : Lo} {ao : Option Addr} {n c : Nat} (h : OwnL w B L ao n c) (hb : B' ≤ B) : OwnL w B' L ao n c := ⟨owns_mono h.1 hb, h.2⟩
theorem OwnL.put3 {w : World} {B R : Nat} {L : Lo} {ao : Option Addr} {n c : Nat} {x y z : Value} (h : OwnL w B L ao n c) (hR : R < B) : OwnL (put3 w R x y z) B L ao n c := ⟨put3_owns h.1 hR, h.2⟩
theorem OwnL.nil (w : World) (B : Nat) : OwnL w B lo0 none 0 0 := ⟨World.ownsRow_nil _ _ _ _, rfl, by omega⟩
set_option maxHeartbeats 4000000 in
theorem own_any (b t : Int) (ao : Option Addr) (n cap : Nat) (l : List En) (w : World) (h : Es w ao n cap l) (hn : n ≤ 1000000) :
    Calls Tryz.prog 65 #[.agg #[.int .i64 b, .int .i64 t, .slice ao n cap]] w fun e w' => ∃ ao' c', e = .returned (.agg #[.int .i64 b, .int .i64 t, .slice ao' n c']) ∧ Hid (OwnL w' w.heap.size ⟨b, t, l⟩ ao' n c') ∧ Hid (Below w.heap.size w w') := by
  have hwa : Below w.heap.size w (((w.alloc (.cells #[.int .i64 b, .int .i64 t, .slice ao n cap] 85)).alloc (.cells zl.toArray 85)).alloc (.cells #[.slice ao n cap] 24)) := (((Below.refl _ _).alloc (Nat.le_refl _) _).alloc (by simp) _).alloc (by simp; omega) _
  have HB := hide hwa
  have HX : Hid (Bx (((w.alloc (.cells #[.int .i64 b, .int .i64 t, .slice ao n cap] 85)).alloc (.cells zl.toArray 85)).alloc (.cells #[.slice ao n cap] 24)) (w.heap.size + 1) zl 85) := (Bx.new (w.alloc _) _ _ _ (by simp)).below ((Below.refl _ _).alloc (Nat.le_refl _) _)
  have HR : Hid (RowsE (((w.alloc (.cells #[.int .i64 b, .int .i64 t, .slice ao n cap] 85)).alloc (.cells zl.toArray 85)).alloc (.cells #[.slice ao n cap] 24)) (w.heap.size + 2) 1 (fun _ => ⟨ao, n, cap⟩) [l]) := ⟨rfl, fun i hi => by
    obtain rfl : i = 0 := by omega
    refine ⟨?_, h.below hwa⟩
    exact cell_new _ _ _ _ 0 _ rfl (by simp)⟩
  have HN := hide h.1
  clear h hwa
  unfold zl at HB HX HR
  go_enter Tryz.func65, Tryz.ntmps65
  go_wp2_with fail
  refine (made_any b t (w.heap.size + 2) 1 1 (fun _ => ⟨ao, n, cap⟩) [l] l n _ (by omega) (by simp) (unhide HN) hn (unhide HR)).mono ?_
  rintro e w2 ⟨ao', c', rfl, HO, HB2⟩
  have HX2 := hide ((unhide HX).below (unhide HB2))
  obtain ⟨⟨c0, c1, c2⟩, f0, f1, f2⟩ := bx_slot (unhide HX2)
  go_wp2
  refine bodyPost_ret (res_l (B := w.heap.size + 1) rfl rfl (put3_bx (unhide HX2) _ _ _)) rfl ?_
  exact ⟨_, _, rfl, ⟨owns_mono (put3_owns (unhide HO) (by simp)) (by simp; omega), unhide HN, hn⟩, put3_below (bnx (unhide HB) (unhide HB2)) (by omega)⟩
end Go.Proofs.YtmmhdhpocjnlbaaGreatDoor.Et
