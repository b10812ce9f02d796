/- Proved here: entries.made and own: a log in memory of its own. Helper contracts. -/
import Derived.Test.YtcffbkgkdoaplaaDoorZECc
namespace Go.Proofs.YtcffbkgkdoaplaaDoor.Et
open Go.RowKit Nt
set_option maxRecDepth 100000

theorem res_l {fn : Func} {a : Tmp} (h : fn.results = #[.cell a 25]) {tmps : Array Value} {w : World} {B : Nat} {v0 v1 v2 : Value} (ha : tmps[a]?.getD undef = .pointer (some ⟨B, 0, none⟩)) (hb : Bx w B [v0, v1, v2] 25) :
    (results fn tmps).run Tryd.prog w = .ok (.agg #[v0, v1, v2]) w := by
  have c0 := hb.cell 0 v0 rfl
  have c1 := hb.cell 1 v1 rfl
  have c2 := hb.cell 2 v2 rfl
  simp [results, h, ha, go_sem, c0, c1, c2]
theorem res_le {fn : Func} {a t : Tmp} (h : fn.results = #[.cell a 25, .tmp t]) {tmps : Array Value} {w : World} {B : Nat} {v0 v1 v2 : Value} (ha : tmps[a]?.getD undef = .pointer (some ⟨B, 0, none⟩)) (hb : Bx w B [v0, v1, v2] 25) :
    (results fn tmps).run Tryd.prog w = .ok (.tuple #[.agg #[v0, v1, v2], tmps[t]?.getD undef]) w := by
  have c0 := hb.cell 0 v0 rfl
  have c1 := hb.cell 1 v1 rfl
  have c2 := hb.cell 2 v2 rfl
  simp [results, h, ha, go_sem, c0, c1, c2]
theorem res_lme {fn : Func} {a t u : Tmp} (h : fn.results = #[.cell a 25, .tmp t, .tmp u]) {tmps : Array Value} {w : World} {B : Nat} {v0 v1 v2 : Value} (ha : tmps[a]?.getD undef = .pointer (some ⟨B, 0, none⟩)) (hb : Bx w B [v0, v1, v2] 25) :
    (results fn tmps).run Tryd.prog w = .ok (.tuple #[.agg #[v0, v1, v2], tmps[t]?.getD undef, tmps[u]?.getD undef]) w := by
  have c0 := hb.cell 0 v0 rfl
  have c1 := hb.cell 1 v1 rfl
  have c2 := hb.cell 2 v2 rfl
  simp [results, h, ha, go_sem, c0, c1, c2]
/-- three cells set -/
def put3 (w : World) (R : Nat) (x y z : Value) : World := ((w.setCell ⟨R, 0, none⟩ x).setCell ⟨R, 1, none⟩ y).setCell ⟨R, 2, none⟩ z
theorem put3_bx {w : World} {R : Nat} {a b c : Value} {t : TypeId} (h : Bx w R [a, b, c] t) (x y z : Value) : Bx (put3 w R x y z) R [x, y, z] t :=
  ((h.set 0 x (by simp)).set 1 y (by simp)).set 2 z (by simp)
theorem put3_fr (w : World) (R : Nat) (x y z : Value) : Fr (fun k => k = R) w (put3 w R x y z) := ((set_fr (F := fun k => k = R) rfl).trans (set_fr (F := fun k => k = R) rfl)).trans (set_fr (F := fun k => k = R) rfl)
theorem put3_below {w0 w : World} {R : Nat} {x y z : Value} (h : Below w0.heap.size w0 w) (hR : w0.heap.size ≤ R) : Below w0.heap.size w0 (put3 w R x y z) := Fr.bel h (put3_fr w R x y z) (fun i hi => by omega) h.size
theorem put3_owns {w : World} {R B : Nat} {x y z : Value} {e : TypeId} {s n : Nat} {v : Value} {xs : List Value} (h : w.ownsRow B e s v n xs) (hR : R < B) : (put3 w R x y z).ownsRow B e s v n xs := owns_fr h (put3_fr w R x y z) (fun g hg => by have := (owns_blk h g hg).1; omega)
set_option maxHeartbeats 4000000 in
theorem made_any (b t : Int) (g m cap : Nat) (f : Nat → Sl) (ls : List (List En)) (l : List En) (N : Nat) (w : World) (hm : m ≤ 4) (hl : ls.flatten = l) (hN : l.length = N) (hmx : N ≤ 1000000) (hr : RowsE w g m f ls) :
    Calls Tryd.prog 42 #[.int .i64 b, .int .i64 t, .slice (some ⟨g, 0, none⟩) m cap] w fun e w' => ∃ ao c, e = .returned (.agg #[.int .i64 b, .int .i64 t, .slice ao N c]) ∧ Hid (w'.ownsRow w.heap.size 68 4 (.slice ao N c) N (ecs l)) ∧ Hid (Below w.heap.size w w') := by
  have HB : Hid (Below w.heap.size w (w.alloc (.cells #[.int .i64 0, .int .i64 0, .slice none 0 0] 25))) := (Below.refl _ _).alloc (Nat.le_refl _) _
  have HX : Hid (Bx (w.alloc (.cells #[.int .i64 0, .int .i64 0, .slice none 0 0] 25)) w.heap.size [.int .i64 0, .int .i64 0, .slice none 0 0] 25) := Bx.new w _ _ _ rfl
  have HR := hide (hr.below (unhide HB))
  clear hr
  subst hl
  go_enter Tryd.func42, Tryd.ntmps42
  go_wp2_with fail
  refine (concat_any g m cap f ls _ hm (by rw [hN]; exact hmx) (unhide HR)).mono ?_
  rintro e w2 ⟨v, rfl, HO, HB2⟩
  rw [hN] at HO
  obtain ⟨ao, c, rfl⟩ := owns_slice (unhide HO)
  have HX2 := hide ((unhide HX).below (unhide HB2))
  have f0 := (unhide HX2).frz 0
  have f1 := (unhide HX2).frz 1
  have f2 := (unhide HX2).frz 2
  have c0 := (unhide HX2).cell 0 _ rfl
  have c1 := (unhide HX2).cell 1 _ rfl
  have c2 := (unhide HX2).cell 2 _ rfl
  go_wp2
  refine bodyPost_ret (res_l (B := w.heap.size) rfl rfl (put3_bx (unhide HX2) _ _ _)) rfl ?_
  exact ⟨_, _, rfl, owns_mono (put3_owns (unhide HO) (by simp)) (by simp), put3_below (bnx (unhide HB) (unhide HB2)) (Nat.le_refl _)⟩
end Go.Proofs.YtcffbkgkdoaplaaDoor.Et
