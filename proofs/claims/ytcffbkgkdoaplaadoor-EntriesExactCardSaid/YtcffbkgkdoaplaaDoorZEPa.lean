/- Proved here: dovecoteref0.CopyLog: memory of its own; dovecoteref15.Append: a log with entries more. Helper contracts. -/
import Derived.Test.YtcffbkgkdoaplaaDoorZEAp
import Derived.Deep.Cut
namespace Go.Proofs.YtcffbkgkdoaplaaDoor.Et
open Go.RowKit Nt
set_option maxRecDepth 100000

set_option maxHeartbeats 4000000 in
theorem copyL_any (b t : Int) (ao : Option Addr) (n cap : Nat) (l : List En) (w : World) (h : Es w ao n cap l) (hn : n ≤ 1000000) :
    Calls Tryd.prog 6 #[.agg #[.int .i64 b, .int .i64 t, .slice ao n cap]] w fun e w' => ∃ ao' c', e = .returned (.agg #[.int .i64 b, .int .i64 t, .slice ao' n c']) ∧ Hid (OwnL w' w.heap.size ⟨b, t, l⟩ ao' n c') ∧ Hid (Below w.heap.size w w') := by
  have hwa : Below w.heap.size w (((w.alloc (.cells #[.int .i64 b, .int .i64 t, .slice ao n cap] 25)).alloc (.cells #[.int .i64 0, .int .i64 0, .slice none 0 0] 25)).alloc (.cells #[.int .i64 b, .int .i64 t, .slice ao n cap] 25)) := (((Below.refl _ _).alloc (Nat.le_refl _) _).alloc (by simp) _).alloc (by simp; omega) _
  have HB := hide hwa
  have HX : Hid (Bx (((w.alloc (.cells #[.int .i64 b, .int .i64 t, .slice ao n cap] 25)).alloc (.cells #[.int .i64 0, .int .i64 0, .slice none 0 0] 25)).alloc (.cells #[.int .i64 b, .int .i64 t, .slice ao n cap] 25)) (w.heap.size + 1) [.int .i64 0, .int .i64 0, .slice none 0 0] 25) := (Bx.new (w.alloc _) _ _ _ (by simp)).below ((Below.refl _ _).alloc (Nat.le_refl _) _)
  have HY : Hid (Bx (((w.alloc (.cells #[.int .i64 b, .int .i64 t, .slice ao n cap] 25)).alloc (.cells #[.int .i64 0, .int .i64 0, .slice none 0 0] 25)).alloc (.cells #[.int .i64 b, .int .i64 t, .slice ao n cap] 25)) (w.heap.size + 2) [.int .i64 b, .int .i64 t, .slice ao n cap] 25) := Bx.new _ _ _ _ (by simp)
  have HE := hide (h.below hwa)
  have hsz : (((w.alloc (.cells #[.int .i64 b, .int .i64 t, .slice ao n cap] 25)).alloc (.cells #[.int .i64 0, .int .i64 0, .slice none 0 0] 25)).alloc (.cells #[.int .i64 b, .int .i64 t, .slice ao n cap] 25)).heap.size = w.heap.size + 3 := by simp
  have HS := hide hsz
  have HN := hide h.1
  clear h hwa hsz
  go_enter Tryd.func6, Tryd.ntmps6
  go_wp2_with fail
  refine (cope_own _ l _ (unhide HE).ens (by rw [unhide HN]; omega)).mono ?_
  rw [unhide HN, unhide HS]
  rintro e w2 ⟨v, rfl, HO, hb⟩
  obtain ⟨a2, c2, rfl⟩ := owns_slice (unhide HO)
  have hb' : Below (((w.alloc (.cells #[.int .i64 b, .int .i64 t, .slice ao n cap] 25)).alloc (.cells #[.int .i64 0, .int .i64 0, .slice none 0 0] 25)).alloc (.cells #[.int .i64 b, .int .i64 t, .slice ao n cap] 25)).heap.size (((w.alloc (.cells #[.int .i64 b, .int .i64 t, .slice ao n cap] 25)).alloc (.cells #[.int .i64 0, .int .i64 0, .slice none 0 0] 25)).alloc (.cells #[.int .i64 b, .int .i64 t, .slice ao n cap] 25)) w2 := by rw [unhide HS]; exact hb
  have HB2 : Hid (Below w.heap.size w w2) := bnx (unhide HB) hb'
  have HX2 := hide ((unhide HX).below hb')
  have HY2 := hide ((unhide HY).below hb')
  have hw2 : w.heap.size + 3 ≤ w2.heap.size := by rw [← unhide HS]; exact hb'.size
  obtain ⟨⟨x0, x1, x2⟩, xf0, xf1, xf2⟩ := bx_slot (unhide HX2)
  obtain ⟨⟨y0, y1, y2⟩, yf0, yf1, yf2⟩ := bx_slot (unhide HY2)
  clear hb hb' HX HY HE HB
  go_upto_region 3 with fail
  have HY3 : Hid (Bx (w2.setCell ⟨w.heap.size + 2, 2, none⟩ (.slice a2 n c2)) (w.heap.size + 2) [.int .i64 b, .int .i64 t, .slice a2 n c2] 25) := (unhide HY2).set 2 _ (by simp)
  have HX3 : Hid (Bx (w2.setCell ⟨w.heap.size + 2, 2, none⟩ (.slice a2 n c2)) (w.heap.size + 1) [.int .i64 0, .int .i64 0, .slice none 0 0] 25) := (unhide HX2).set_ne 2 _ (by omega)
  have hfr : Fr (fun k => k = w.heap.size + 2) w2 (w2.setCell ⟨w.heap.size + 2, 2, none⟩ (.slice a2 n c2)) := set_fr rfl
  have HB3 : Hid (Below w.heap.size w (w2.setCell ⟨w.heap.size + 2, 2, none⟩ (.slice a2 n c2))) := Fr.bel (unhide HB2) hfr (fun i hi => by omega) (unhide HB2).size
  have HO3 : Hid (OwnL (w2.setCell ⟨w.heap.size + 2, 2, none⟩ (.slice a2 n c2)) (w.heap.size + 3) ⟨b, t, l⟩ a2 n c2) := ⟨owns_fr (unhide HO) hfr (fun g hg => by have := (owns_blk (unhide HO) g hg).1; omega), unhide HN, hn⟩
  generalize w2.setCell ⟨w.heap.size + 2, 2, none⟩ (.slice a2 n c2) = w3 at HY3 HX3 hfr HB3 HO3 ⊢
  clear x0 x1 x2 xf0 xf1 xf2 y0 y1 y2 yf0 yf1 yf2 hfr HX2 HY2 HB2 HO
  obtain ⟨⟨x0, x1, x2⟩, xf0, xf1, xf2⟩ := bx_slot (unhide HX3)
  obtain ⟨⟨y0, y1, y2⟩, yf0, yf1, yf2⟩ := bx_slot (unhide HY3)
  go_wp2
  refine bodyPost_ret (res_l (B := w.heap.size + 1) rfl rfl (put3_bx (unhide HX3) _ _ _)) rfl ?_
  exact ⟨_, _, rfl, ((unhide HO3).put3 (by omega)).mono (by omega), put3_below (unhide HB3) (by omega)⟩
end Go.Proofs.YtcffbkgkdoaplaaDoor.Et
