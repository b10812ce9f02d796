/- Proved here: entries.told: an error where the number is not 0, else none. Helper contract. -/
import Derived.Test.YtmmhdhpocjnlbaaGreatDoorM3
namespace Go.Proofs.YtmmhdhpocjnlbaaGreatDoor.Et
open Go.RowKit Nt
set_option maxRecDepth 100000

/-- an error where the number is not 0, else none -/
def ErS (w : World) (B : Nat) (E : Value) (n : Int) : Prop := (n = 0 ∧ E = .nilIface) ∨ (n ≠ 0 ∧ ErB w B E n)
theorem ErS.below {w w' : World} {B : Nat} {E : Value} {n : Int} (h : ErS w B E n) (hb : Below w.heap.size w w') : ErS w' B E n := h.imp id (fun h => ⟨h.1, h.2.below hb⟩)
theorem ErS.mono {w : World} {B B' : Nat} {E : Value} {n : Int} (h : ErS w B E n) (hb : B' ≤ B) : ErS w B' E n := h.imp id (fun h => ⟨h.1, h.2.mono hb⟩)
theorem ErS.put3 {w : World} {B R : Nat} {E : Value} {n : Int} {x y z : Value} (h : ErS w B E n) (hR : R < B) : ErS (put3 w R x y z) B E n := h.imp id (fun h => ⟨h.1, h.2.put3 hR⟩)
def TelS (B : Nat) (r : Int × Lo) (e : Ending) (w' : World) : Prop := ∃ E ao n c, e = .returned (.tuple #[.agg #[.int .i64 r.2.b, .int .i64 r.2.t, .slice ao n c], E]) ∧ Hid (OwnL w' B r.2 ao n c) ∧ Hid (ErS w' B E r.1)
set_option maxHeartbeats 4000000 in
theorem told_s (B : Nat) (L : Lo) (ao : Option Addr) (n c : Nat) (E : Value) (x : Int) (w : World) (hB : B ≤ w.heap.size) (h : OwnL w B L ao n c) (he : RawE E x) (h0 : x ≠ 0 → L = lo0) :
    Calls Tryz.prog 66 #[.agg #[.int .i64 L.b, .int .i64 L.t, .slice ao n c], E] w fun e w' => TelS B (x, L) e w' ∧ Hid (Below w.heap.size w w') := by
  have HO := hide h
  rcases he with ⟨rfl, rfl⟩ | ⟨hx, rfl⟩
  · clear h h0
    have HB1 : Hid (Below w.heap.size w ((w.alloc (.cells #[.int .i64 L.b, .int .i64 L.t, .slice ao n c] 85)).alloc (.cells #[.int .i64 L.b, .int .i64 L.t, .slice ao n c] 85))) := ((Below.refl _ _).alloc (Nat.le_refl _) _).alloc (by simp) _
    go_enter Tryz.func66, Tryz.ntmps66
    go_wp2
    refine bodyPost_ret (res_le (B := w.heap.size + 1) rfl rfl (Bx.new (w.alloc (.cells #[.int .i64 L.b, .int .i64 L.t, .slice ao n c] 85)) [.int .i64 L.b, .int .i64 L.t, .slice ao n c] 85 _ (by simp))) rfl ?_
    exact ⟨⟨_, _, _, _, rfl, (unhide HO).below (unhide HB1), .inl ⟨rfl, rfl⟩⟩, HB1⟩
  · have hL := h0 hx
    subst hL
    have HB0 : Hid (Below w.heap.size w ((w.alloc (.cells #[.int .i64 0, .int .i64 0, .slice ao n c] 85)).alloc (.cells #[.int .i64 0, .int .i64 0, .slice none 0 0] 85))) := ((Below.refl _ _).alloc (Nat.le_refl _) _).alloc (by simp) _
    have HY0 : Hid (Bx ((w.alloc (.cells #[.int .i64 0, .int .i64 0, .slice ao n c] 85)).alloc (.cells #[.int .i64 0, .int .i64 0, .slice none 0 0] 85)) (w.heap.size + 1) [.int .i64 0, .int .i64 0, .slice none 0 0] 85) := Bx.new _ _ _ _ (by simp)
    have HX := hide hx
    clear h h0 hx
    show Calls _ _ #[.agg #[.int .i64 0, .int .i64 0, .slice ao n c], .iface 61 (.int .i64 x)] _ _
    go_enter Tryz.func66, Tryz.ntmps66
    go_wp2_with fail
    refine (fault_n x _).mono ?_
    rintro e w2 ⟨y, rfl, HER, HB2⟩
    have HY := hide ((unhide HY0).below (unhide HB2))
    obtain ⟨⟨c0, c1, c2⟩, f0, f1, f2⟩ := bx_slot (unhide HY)
    have HB : Hid (Below w.heap.size w w2) := bnx (unhide HB0) (unhide HB2)
    go_wp2
    refine bodyPost_ret (res_le (B := w.heap.size + 1) rfl rfl (put3_bx (unhide HY) _ _ _)) rfl ?_
    exact ⟨⟨_, _, _, _, rfl, OwnL.nil _ _, .inr ⟨unhide HX, ((unhide HER).put3 (by simp)).mono (by simp; omega)⟩⟩, put3_below (unhide HB) (by omega)⟩
end Go.Proofs.YtmmhdhpocjnlbaaGreatDoor.Et
