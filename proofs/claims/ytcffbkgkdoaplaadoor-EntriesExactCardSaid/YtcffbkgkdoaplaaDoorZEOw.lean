/- Proved here: entries.own: a log in memory of its own. Helper contracts. -/
import Derived.Test.YtcffbkgkdoaplaaDoorZEMd
namespace Go.Proofs.YtcffbkgkdoaplaaDoor.Et
open Go.RowKit Nt
set_option maxRecDepth 100000

def zl : List Value := [.int .i64 0, .int .i64 0, .slice none 0 0]
/-- a slot for a log that a call tells -/
theorem bx_slot {w : World} {R : Nat} {a b c : Value} {t : TypeId} (h : Bx w R [a, b, c] t) : (w.cell? ⟨R, 0, none⟩ = some a ∧ w.cell? ⟨R, 1, none⟩ = some b ∧ w.cell? ⟨R, 2, none⟩ = some c) ∧ w.frozen? ⟨R, 0, none⟩ = false ∧ w.frozen? ⟨R, 1, none⟩ = false ∧ w.frozen? ⟨R, 2, none⟩ = false :=
  ⟨⟨h.cell 0 _ rfl, h.cell 1 _ rfl, h.cell 2 _ rfl⟩, h.frz 0, h.frz 1, h.frz 2⟩
/-- the log, in memory of its own, as a call tells it -/
def OwnL (w : World) (B : Nat) (L : Lo) (ao : Option Addr) (n c : Nat) : Prop := w.ownsRow B 68 4 (.slice ao n c) n (ecs L.es) ∧ L.es.length = n ∧ n ≤ 1000000
theorem OwnL.es {w : World} {B : Nat} {L : Lo} {ao : Option Addr} {n c : Nat} (h : OwnL w B L ao n c) : Es w ao n c L.es := by
  obtain ⟨a', c', e, h2⟩ := Es.own h.1 h.2.1 (by have := h.2.2; omega)
  simp only [Value.slice.injEq] at e
  obtain ⟨rfl, _, rfl⟩ := e
  exact h2
theorem OwnL.below {w w' : World} {B : Nat} {L : Lo} {ao : Option Addr} {n c : Nat} (h : OwnL w B L ao n c) (hb : Below w.heap.size w w') : OwnL w' B L ao n c := ⟨owns_below h.1 hb, h.2⟩
theorem OwnL.mono {w : World} {B B' : Nat} {L : Lo} {ao : Option Addr} {n c : Nat} (h : OwnL w B L ao n c) (hb : B' ≤ B) : OwnL w B' L ao n c := ⟨owns_mono h.1 hb, h.2⟩
theorem OwnL.put3 {w : World} {B R : Nat} {L : Lo} {ao : Option Addr} {n c : Nat} {x y z : Value} (h : OwnL w B L ao n c) (hR : R < B) : OwnL (put3 w R x y z) B L ao n c := ⟨put3_owns h.1 hR, h.2⟩
theorem OwnL.nil (w : World) (B : Nat) : OwnL w B lo0 none 0 0 := ⟨World.ownsRow_nil _ _ _ _, rfl, by omega⟩
set_option maxHeartbeats 4000000 in
theorem own_any (b t : Int) (ao : Option Addr) (n cap : Nat) (l : List En) (w : World) (h : Es w ao n cap l) (hn : n ≤ 1000000) :
    Calls Tryd.prog 49 #[.agg #[.int .i64 b, .int .i64 t, .slice ao n cap]] w fun e w' => ∃ ao' c', e = .returned (.agg #[.int .i64 b, .int .i64 t, .slice ao' n c']) ∧ Hid (OwnL w' w.heap.size ⟨b, t, l⟩ ao' n c') ∧ Hid (Below w.heap.size w w') := by
  have hwa : Below w.heap.size w (((w.alloc (.cells #[.int .i64 b, .int .i64 t, .slice ao n cap] 25)).alloc (.cells zl.toArray 25)).alloc (.cells #[.slice ao n cap] 23)) := (((Below.refl _ _).alloc (Nat.le_refl _) _).alloc (by simp) _).alloc (by simp; omega) _
  have HB := hide hwa
  have HX : Hid (Bx (((w.alloc (.cells #[.int .i64 b, .int .i64 t, .slice ao n cap] 25)).alloc (.cells zl.toArray 25)).alloc (.cells #[.slice ao n cap] 23)) (w.heap.size + 1) zl 25) := (Bx.new (w.alloc _) _ _ _ (by simp)).below ((Below.refl _ _).alloc (Nat.le_refl _) _)
  have HR : Hid (RowsE (((w.alloc (.cells #[.int .i64 b, .int .i64 t, .slice ao n cap] 25)).alloc (.cells zl.toArray 25)).alloc (.cells #[.slice ao n cap] 23)) (w.heap.size + 2) 1 (fun _ => ⟨ao, n, cap⟩) [l]) := ⟨rfl, fun i hi => by
    obtain rfl : i = 0 := by omega
    refine ⟨?_, h.below hwa⟩
    exact cell_new _ _ _ _ 0 _ rfl (by simp)⟩
  have HN := hide h.1
  clear h hwa
  unfold zl at HB HX HR
  go_enter Tryd.func49, Tryd.ntmps49
  go_wp2_with fail
  refine (made_any b t (w.heap.size + 2) 1 1 (fun _ => ⟨ao, n, cap⟩) [l] l n _ (by omega) (by simp) (unhide HN) hn (unhide HR)).mono ?_
  rintro e w2 ⟨ao', c', rfl, HO, HB2⟩
  have HX2 := hide ((unhide HX).below (unhide HB2))
  obtain ⟨⟨c0, c1, c2⟩, f0, f1, f2⟩ := bx_slot (unhide HX2)
  go_wp2
  refine bodyPost_ret (res_l (B := w.heap.size + 1) rfl rfl (put3_bx (unhide HX2) _ _ _)) rfl ?_
  exact ⟨_, _, rfl, ⟨owns_mono (put3_owns (unhide HO) (by simp)) (by simp; omega), unhide HN, hn⟩, put3_below (bnx (unhide HB) (unhide HB2)) (by omega)⟩
end Go.Proofs.YtcffbkgkdoaplaaDoor.Et
