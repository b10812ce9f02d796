/- Proved here: the walk of dovecotelaw15.EntriesExact: whatever logs it is handed, it returns true. Helper contract. -/
import Derived.Test.YtcffbkgkdoaplaaDoorZEOk
import Derived.Test.YtcffbkgkdoaplaaDoorZEPd
import Derived.Test.YtcffbkgkdoaplaaDoorZESc
import Derived.Test.YtcffbkgkdoaplaaDoorZEAp
import Derived.Test.YtcffbkgkdoaplaaDoorZECt
import Derived.Test.YtcffbkgkdoaplaaDoorZECm
import Derived.Test.YtcffbkgkdoaplaaDoorZEPu
import Derived.Test.YtcffbkgkdoaplaaDoorZEPa
import Derived.Test.YtcffbkgkdoaplaaDoorZESp
import Derived.Test.YtcffbkgkdoaplaaDoorZEFa
import Derived.Deep.Cut
import Derived.Deep.CutRange
namespace Go.Proofs.YtcffbkgkdoaplaaDoor.Et
open Go.RowKit Nt
set_option maxRecDepth 100000

/-- a log in a block of its own -/
def LgAt (w : World) (R : Nat) (L : Lo) : Prop := ∃ a n c, Bx w R [.int .i64 L.b, .int .i64 L.t, .slice a n c] 25 ∧ Es w a n c L.es
theorem LgAt.below {w w' : World} {R : Nat} {L : Lo} (h : LgAt w R L) (hb : Below w.heap.size w w') : LgAt w' R L := by
  obtain ⟨a, n, c, h1, h2⟩ := h
  exact ⟨a, n, c, h1.below hb, h2.below hb⟩
/-- .. whose list lies at B or behind -/
def LgO (w : World) (R B : Nat) (L : Lo) : Prop := ∃ a n c, Bx w R [.int .i64 L.b, .int .i64 L.t, .slice a n c] 25 ∧ OwnL w B L a n c
theorem LgO.at {w : World} {R B : Nat} {L : Lo} (h : LgO w R B L) : LgAt w R L := by
  obtain ⟨a, n, c, h1, h2⟩ := h
  exact ⟨a, n, c, h1, h2.es⟩
theorem LgO.below {w w' : World} {R B : Nat} {L : Lo} (h : LgO w R B L) (hb : Below w.heap.size w w') : LgO w' R B L := by
  obtain ⟨a, n, c, h1, h2⟩ := h
  exact ⟨a, n, c, h1.below hb, h2.below hb⟩
theorem LgO.put3 {w : World} {R B R' : Nat} {L : Lo} {x y z : Value} (h : LgO w R B L) (hR : R ≠ R') (hB : R' < B) : LgO (put3 w R' x y z) R B L := by
  obtain ⟨a, n, c, h1, h2⟩ := h
  exact ⟨a, n, c, h1.fr (put3_fr w R' x y z) hR, h2.put3 hB⟩
theorem LgO.lay {w : World} {R B : Nat} {L : Lo} {a : Option Addr} {n c : Nat} {u v x : Value} (hb : Bx w R [u, v, x] 25) (h : OwnL w B L a n c) (hB : R < B) : LgO (Et.put3 w R (.int .i64 L.b) (.int .i64 L.t) (.slice a n c)) R B L := ⟨a, n, c, put3_bx hb _ _ _, h.put3 hB⟩
theorem LgO.zero {w : World} {R B : Nat} (hb : Bx w R [.int .i64 0, .int .i64 0, .slice none 0 0] 25) : LgO w R B lo0 := ⟨none, 0, 0, hb, OwnL.nil _ _⟩
theorem es_put_bx {w : World} {R : Nat} {x y z x' y' z' : Value} {ty : TypeId} {ao : Option Addr} {n c : Nat} {l : List En} (h : Es w ao n c l) (hb : Bx w R [x, y, z] ty) : Es (put3 w R x' y' z') ao n c l := by
  obtain ⟨h1, h2, h3, h4, h5⟩ := h
  refine ⟨h1, h2, h3, h4, ?_⟩
  rcases h5 with h5 | ⟨b, off, e, hc⟩
  · exact .inl h5
  · by_cases hn : n = 0
    · exact .inl hn
    have hne : ¬ b = R := by
      rintro rfl
      obtain ⟨_, _, _, c3⟩ := hc 0 (by omega)
      rw [cell_of hb] at c3
      rw [Array.getElem?_eq_none (by simp)] at c3
      cases c3
    refine .inr ⟨b, off, e, fun j hj => ?_⟩
    obtain ⟨c0, c1, c2, c3⟩ := hc j hj
    have hf := put3_fr w R x' y' z'
    exact ⟨hf.cell hne c0, hf.cell hne c1, hf.cell hne c2, hf.cell hne c3⟩
theorem sp_bel {w0 w w' : World} {v : Value} {n : Nat} (h : Below w0.heap.size w0 w) (ho : OwnE w w0.heap.size 68 4 v n) (hs : SF (fun k => v.ownBlock = some k) w w') : Below w0.heap.size w0 w' := by
  obtain ⟨xs, hx⟩ := ho
  exact Fr.bel h hs.fr (fun g hg => (owns_blk hx g hg).1) h.size
theorem sp_bx {w w' : World} {B R : Nat} {cs : List Value} {v : Value} {n : Nat} (h : Bx w R cs 25) (ho : OwnE w B 68 4 v n) (hs : SF (fun k => v.ownBlock = some k) w w') : Bx w' R cs 25 := by
  refine h.fr hs.fr (fun hR => ?_)
  obtain ⟨xs, hx⟩ := ho
  rcases hx.2 with ⟨e, _⟩ | ⟨g, cap, cur, e, hB, hg, _⟩
  · rw [e] at hR; cases hR
  · rw [e] at hR
    have hRg : g = R := Option.some.inj hR
    subst hRg
    have h2 : w.heap[g]? = some (.cells cs.toArray 25 (0, 0)) := h
    rw [h2] at hg
    have := (Obj.cells.inj (Option.some.inj hg)).2.1
    exact absurd this (by decide)
set_option maxHeartbeats 8000000 in
theorem exact15_walk (g off len cap : Nat) (f : Nat → Ak) (w : World) (hg : Laid w) (ha : AksIn w g off f len) :
    Calls Tryd.prog 3 #[.slice (some ⟨g, off, none⟩) len cap] w fun e w' => e = .returned (.bool true) ∧ Below w.heap.size w w' := by
  have HA := hide ha
  have HG := hide hg
  clear ha hg
  go_enter Tryd.func3, Tryd.ntmps3
  go_wp2
  go_loopw [3] (fun ii wr => ∃ k : Nat, k ≤ len ∧ ii = .int .i64 k ∧ Hid (Below w.heap.size w wr)) (fun ii _ => len - (intOf ii).toNat)
  case atStart => exact ⟨0, Nat.zero_le _, rfl, Below.refl _ _⟩
  case round =>
    obtain ⟨k, hk, rfl, HB⟩ := hrel
    by_cases h8 : k < len ∧ k < 8
    · obtain ⟨hlt, h8⟩ := h8
      obtain ⟨⟨q0, q1, q2, q3, q4, q5, q6⟩, hl1, hl2⟩ := (unhide HA) k hlt
      generalize f k = ak at q0 q1 q2 q3 q4 q5 q6 hl1 hl2
      obtain ⟨b, t, ⟨a1, n1, p1⟩, l1, i, tt, ⟨a2, n2, p2⟩, l2, kk⟩ := ak
      dsimp only at q0 q1 q2 q3 q4 q5 q6 hl1 hl2
      have HC : Hid (∀ W, Below w.heap.size w W → W.cell? ⟨g, off + k * 7, none⟩ = some (.int .i64 b) ∧ W.cell? ⟨g, off + k * 7 + 1, none⟩ = some (.int .i64 t) ∧ W.cell? ⟨g, off + k * 7 + 2, none⟩ = some (.slice a1 n1 p1) ∧ W.cell? ⟨g, off + k * 7 + 3, none⟩ = some (.int .i64 i) ∧ W.cell? ⟨g, off + k * 7 + 4, none⟩ = some (.int .i64 tt) ∧ W.cell? ⟨g, off + k * 7 + 5, none⟩ = some (.slice a2 n2 p2) ∧ W.cell? ⟨g, off + k * 7 + 6, none⟩ = some (.int .i64 kk)) := fun W hW =>
        ⟨(hW.cell (p := ⟨g, off + k * 7, none⟩) (cell_lt q0)).trans q0, (hW.cell (p := ⟨g, off + k * 7 + 1, none⟩) (cell_lt q1)).trans q1, (hW.cell (p := ⟨g, off + k * 7 + 2, none⟩) (cell_lt q2)).trans q2, (hW.cell (p := ⟨g, off + k * 7 + 3, none⟩) (cell_lt q3)).trans q3, (hW.cell (p := ⟨g, off + k * 7 + 4, none⟩) (cell_lt q4)).trans q4, (hW.cell (p := ⟨g, off + k * 7 + 5, none⟩) (cell_lt q5)).trans q5, (hW.cell (p := ⟨g, off + k * 7 + 6, none⟩) (cell_lt q6)).trans q6⟩
      have H1 := hide hl1
      have H2 := hide hl2
      have hn1 := hl1.2.2.2.1
      clear q0 q1 q2 q3 q4 q5 q6 hl1 hl2
      obtain ⟨P, hP⟩ : ∃ P, P = wr.heap.size := ⟨_, rfl⟩
      have hal : Below wr.heap.size wr (wr.alloc (.cells #[.int .i64 b, .int .i64 t, .slice a1 n1 p1, .int .i64 i, .int .i64 tt, .slice a2 n2 p2, .int .i64 kk] 27)) := (Below.refl _ _).alloc (Nat.le_refl _) _
      have HBp : Hid (Below w.heap.size w (wr.alloc (.cells #[.int .i64 b, .int .i64 t, .slice a1 n1 p1, .int .i64 i, .int .i64 tt, .slice a2 n2 p2, .int .i64 kk] 27))) := bnx (unhide HB) hal
      have HXP : Hid (Bx (wr.alloc (.cells #[.int .i64 b, .int .i64 t, .slice a1 n1 p1, .int .i64 i, .int .i64 tt, .slice a2 n2 p2, .int .i64 kk] 27)) P [.int .i64 b, .int .i64 t, .slice a1 n1 p1, .int .i64 i, .int .i64 tt, .slice a2 n2 p2, .int .i64 kk] 27) := Bx.new _ _ _ _ hP
      clear hal
      obtain ⟨q0, q1, q2, q3, q4, q5, q6⟩ := (unhide HC) _ (unhide HB)
      go_upto_region 5 with fail
      rw [← hP]
      clear q0 q1 q2 q3 q4 q5 q6 hP
      generalize wr.alloc (.cells #[.int .i64 b, .int .i64 t, .slice a1 n1 p1, .int .i64 i, .int .i64 tt, .slice a2 n2 p2, .int .i64 kk] 27) = wp at HBp HXP ⊢
      go_cut [62] from 36 to 62 (fun s62 wx => ∃ c : Bool, s62 = .bool c ∧ Hid (c = false → n1 ≤ 600 ∧ n2 ≤ 600) ∧ Hid (Below wp.heap.size wp wx))
      case first =>
        have q0 := (unhide HXP).cell 0 _ rfl
        have q1 := (unhide HXP).cell 1 _ rfl
        have q2 := (unhide HXP).cell 2 _ rfl
        have q3 := (unhide HXP).cell 3 _ rfl
        have q4 := (unhide HXP).cell 4 _ rfl
        have q5 := (unhide HXP).cell 5 _ rfl
        have q6 := (unhide HXP).cell 6 _ rfl
        go_wp2_with fail
        refine (heavy_any b t i tt kk a1 a2 n1 p1 n2 p2 l1 l2 _ ((unhide H1).below (unhide HBp)) ((unhide H2).below (unhide HBp))).mono ?_
        rintro e w1 ⟨⟨d, rfl, hd⟩, hb⟩
        have HB1 : Hid (Below wp.heap.size wp w1) := hb
        have HD : Hid (d = false → n1 ≤ 600 ∧ n2 ≤ 600) := hd
        replace q2 := (hb.cell (cell_lt q2)).trans q2
        clear hb hd q0 q1 q3 q4 q5 q6
        cases d
        · have hnn := unhide HD rfl
          have HNN : Hid (n1 ≤ 600 ∧ n2 ≤ 600) := hnn
          clear HD hnn
          by_cases hk2 : (k : Int) > 2
          · by_cases h100 : n1 > 100
            · go_wp2
              go_meet
              case rel => exact ⟨_, rfl, fun _ => unhide HNN, HB1⟩
            · go_wp2
              go_meet
              case rel => exact ⟨_, rfl, fun _ => unhide HNN, HB1⟩
          · go_wp2
            go_meet
            case rel => exact ⟨false, rfl, fun _ => unhide HNN, HB1⟩
        · clear HD
          go_wp2
          go_meet
          case rel => exact ⟨true, rfl, (fun h => by cases h), HB1⟩
      case rest =>
      obtain ⟨c, rfl, HNN, HBq⟩ := hcut
      cases c
      case true =>
        have HBr : Hid (Below w.heap.size w wc) := bnx (unhide HBp) (unhide HBq)
        clear HNN
        go_wp2
        go_ret
        exact ⟨rfl, unhide HBr⟩
      case false =>
      obtain ⟨hn6, hn26⟩ := unhide HNN rfl
      clear HNN
      obtain ⟨wa, hwa⟩ : ∃ wa, wa = wc := ⟨_, rfl⟩
      subst hwa
      have HBa : Hid (Below w.heap.size w wa) := bnx (unhide HBp) (unhide HBq)
      have HXa := hide ((unhide HXP).below (unhide HBq))
      clear HXP HBq HBp
      have HCP : Hid (∀ W, Below wa.heap.size wa W → W.cell? ⟨P, 0, none⟩ = some (.int .i64 b) ∧ W.cell? ⟨P, 1, none⟩ = some (.int .i64 t) ∧ W.cell? ⟨P, 2, none⟩ = some (.slice a1 n1 p1) ∧ W.cell? ⟨P, 3, none⟩ = some (.int .i64 i) ∧ W.cell? ⟨P, 4, none⟩ = some (.int .i64 tt) ∧ W.cell? ⟨P, 5, none⟩ = some (.slice a2 n2 p2) ∧ W.cell? ⟨P, 6, none⟩ = some (.int .i64 kk)) := fun W hW => by
        have h := (unhide HXa).below hW
        exact ⟨h.cell 0 _ rfl, h.cell 1 _ rfl, h.cell 2 _ rfl, h.cell 3 _ rfl, h.cell 4 _ rfl, h.cell 5 _ rfl, h.cell 6 _ rfl⟩
      clear HXa
      obtain ⟨q0, q1, q2, q3, q4, q5, q6⟩ := (unhide HCP) _ (Below.refl _ _)
      go_wp2_with fail
      refine (copyL_any b t a1 n1 p1 l1 wa ((unhide H1).below (unhide HBa)) (by omega)).mono ?_
      rintro e wb ⟨ax, cx, rfl, HOX, HBb⟩
      obtain ⟨X, hX⟩ : ∃ X, X = wb.heap.size := ⟨_, rfl⟩
      have hal : Below wb.heap.size wb (wb.alloc (.cells #[.int .i64 b, .int .i64 t, .slice ax n1 cx] 25)) := (Below.refl _ _).alloc (Nat.le_refl _) _
      have HBd : Hid (Below wa.heap.size wa (wb.alloc (.cells #[.int .i64 b, .int .i64 t, .slice ax n1 cx] 25))) := bnx (unhide HBb) hal
      have HXX : Hid (Bx (wb.alloc (.cells #[.int .i64 b, .int .i64 t, .slice ax n1 cx] 25)) X [.int .i64 b, .int .i64 t, .slice ax n1 cx] 25) := Bx.new _ _ _ _ hX
      have HOX2 := hide ((unhide HOX).below hal).es
      clear hal HOX HBb q0 q1 q2 q3 q4 q5 q6
      obtain ⟨q0, q1, q2, q3, q4, q5, q6⟩ := (unhide HCP) _ (unhide HBd)
      go_wp2_with fail
      rw [← hX]
      generalize wb.alloc (.cells #[.int .i64 b, .int .i64 t, .slice ax n1 cx] 25) = wd at HBd HXX HOX2 q0 q1 q2 q3 q4 q5 q6 ⊢
      clear hX
      have HL2 := hide (unhide H2).1
      refine (cope_own _ l2 wd ((unhide H2).below (bnx (unhide HBa) (unhide HBd))).ens (by rw [unhide HL2]; omega)).mono ?_
      rw [unhide HL2]
      rintro e we ⟨v, rfl, HO, hb⟩
      obtain ⟨ae, ce, rfl, HEE⟩ := Es.own (unhide HO) (unhide HL2) (by omega)
      have HEE2 := hide HEE
      have HBe : Hid (Below wa.heap.size wa we) := bnx (unhide HBd) hb
      have HXX2 := hide ((unhide HXX).below hb)
      have HOX3 := hide ((unhide HOX2).below hb)
      clear HEE HO hb HXX HOX2 HBd q0 q1 q2 q3 q4 q5 q6
      obtain ⟨q0, q1, q2, q3, q4, q5, q6⟩ := (unhide HCP) _ (unhide HBe)
      go_wp2_with fail
      refine (may_any b t a1 n1 p1 l1 we ((unhide H1).below (bnx (unhide HBa) (unhide HBe)))).mono ?_
      obtain ⟨dm, hdm⟩ : ∃ dm, dm = decide (May ⟨b, t, l1⟩) := ⟨_, rfl⟩
      have HDM := hide hdm
      rw [← hdm]
      clear hdm
      rintro e wm ⟨rfl, hb⟩
      have HBm : Hid (Below w.heap.size w wm) := bnx (bnx (unhide HBa) (unhide HBe)) hb
      have HCM : Hid (∀ W, Below wm.heap.size wm W → (W.cell? ⟨P, 0, none⟩ = some (.int .i64 b) ∧ W.cell? ⟨P, 1, none⟩ = some (.int .i64 t) ∧ W.cell? ⟨P, 2, none⟩ = some (.slice a1 n1 p1) ∧ W.cell? ⟨P, 3, none⟩ = some (.int .i64 i) ∧ W.cell? ⟨P, 4, none⟩ = some (.int .i64 tt) ∧ W.cell? ⟨P, 5, none⟩ = some (.slice a2 n2 p2) ∧ W.cell? ⟨P, 6, none⟩ = some (.int .i64 kk)) ∧ (W.cell? ⟨X, 0, none⟩ = some (.int .i64 b) ∧ W.cell? ⟨X, 1, none⟩ = some (.int .i64 t) ∧ W.cell? ⟨X, 2, none⟩ = some (.slice ax n1 cx)) ∧ Es W ax n1 cx l1 ∧ Es W ae n2 ce l2 ∧ Es W a1 n1 p1 l1 ∧ Es W a2 n2 p2 l2) := fun W hW => by
        have h1 : Below wa.heap.size wa W := bnx (bnx (unhide HBe) hb) hW
        have h2 : Below we.heap.size we W := bnx hb hW
        have h3 := (unhide HXX2).below h2
        exact ⟨(unhide HCP) _ h1, ⟨h3.cell 0 _ rfl, h3.cell 1 _ rfl, h3.cell 2 _ rfl⟩, (unhide HOX3).below h2, (unhide HEE2).below h2, (unhide H1).below (bnx (unhide HBm) hW), (unhide H2).below (bnx (unhide HBm) hW)⟩
      clear hb q0 q1 q2 q3 q4 q5 q6 HBe HXX2 HOX3 HEE2 HCP
      have hal : Below wm.heap.size wm (((wm.alloc (.cells #[.int .i64 0, .int .i64 0, .slice none 0 0] 25)).alloc (.cells #[.int .i64 0, .int .i64 0, .slice none 0 0] 25)).alloc (.cells #[.int .i64 0, .int .i64 0, .slice none 0 0] 25)) := (((Below.refl _ _).alloc (Nat.le_refl _) _).alloc (by simp) _).alloc (by simp; omega) _
      have HB3 : Hid (Below wm.heap.size wm (((wm.alloc (.cells #[.int .i64 0, .int .i64 0, .slice none 0 0] 25)).alloc (.cells #[.int .i64 0, .int .i64 0, .slice none 0 0] 25)).alloc (.cells #[.int .i64 0, .int .i64 0, .slice none 0 0] 25))) := hal
      have HRA : Hid (Bx (((wm.alloc (.cells #[.int .i64 0, .int .i64 0, .slice none 0 0] 25)).alloc (.cells #[.int .i64 0, .int .i64 0, .slice none 0 0] 25)).alloc (.cells #[.int .i64 0, .int .i64 0, .slice none 0 0] 25)) wm.heap.size [.int .i64 0, .int .i64 0, .slice none 0 0] 25) := ((Bx.new wm _ _ _ rfl).below ((Below.refl _ _).alloc (Nat.le_refl _) _)).below ((Below.refl _ _).alloc (Nat.le_refl _) _)
      have HRB : Hid (Bx (((wm.alloc (.cells #[.int .i64 0, .int .i64 0, .slice none 0 0] 25)).alloc (.cells #[.int .i64 0, .int .i64 0, .slice none 0 0] 25)).alloc (.cells #[.int .i64 0, .int .i64 0, .slice none 0 0] 25)) (wm.heap.size + 1) [.int .i64 0, .int .i64 0, .slice none 0 0] 25) := (Bx.new (wm.alloc _) _ _ _ (by simp)).below ((Below.refl _ _).alloc (Nat.le_refl _) _)
      have HRD : Hid (Bx (((wm.alloc (.cells #[.int .i64 0, .int .i64 0, .slice none 0 0] 25)).alloc (.cells #[.int .i64 0, .int .i64 0, .slice none 0 0] 25)).alloc (.cells #[.int .i64 0, .int .i64 0, .slice none 0 0] 25)) (wm.heap.size + 2) [.int .i64 0, .int .i64 0, .slice none 0 0] 25) := Bx.new _ _ _ _ (by simp)
      have hs3 : (((wm.alloc (.cells #[.int .i64 0, .int .i64 0, .slice none 0 0] 25)).alloc (.cells #[.int .i64 0, .int .i64 0, .slice none 0 0] 25)).alloc (.cells #[.int .i64 0, .int .i64 0, .slice none 0 0] 25)).heap.size = wm.heap.size + 3 := by simp
      clear hal
      go_upto_if 72 with fail
      generalize ((wm.alloc (.cells #[.int .i64 0, .int .i64 0, .slice none 0 0] 25)).alloc (.cells #[.int .i64 0, .int .i64 0, .slice none 0 0] 25)).alloc (.cells #[.int .i64 0, .int .i64 0, .slice none 0 0] 25) = w3 at HB3 HRA HRB HRD hs3 ⊢
      obtain ⟨⟨x9, ⟨ab, abt, aes⟩⟩, h9⟩ : ∃ r, r = chkR ⟨b, t, l1⟩ (apR ⟨b, t, l1⟩ l2) := ⟨_, rfl⟩
      obtain ⟨⟨x10, ⟨bb, bbt, bes⟩⟩, h10⟩ : ∃ r, r = chkR ⟨b, t, l1⟩ (cutR ⟨b, t, l1⟩ i) := ⟨_, rfl⟩
      obtain ⟨⟨x11, lp⟩, h11⟩ : ∃ r, r = chkS ⟨b, t, l1⟩ (partR ⟨b, t, l1⟩ i kk) := ⟨_, rfl⟩
      obtain ⟨⟨x12, ⟨db, dbt, des⟩⟩, h12⟩ : ∃ r, r = chkR ⟨b, t, l1⟩ (comR ⟨b, t, l1⟩ i) := ⟨_, rfl⟩
      obtain ⟨⟨x13, att⟩, h13⟩ : ∃ r, r = termR ⟨b, t, l1⟩ i := ⟨_, rfl⟩
      obtain ⟨⟨f0, la, ta⟩, h14⟩ : ∃ r, r = lastR ⟨b, t, l1⟩ := ⟨_, rfl⟩
      obtain ⟨⟨f1, nb⟩, h15⟩ : ∃ r, r = newR ⟨b, t, l1⟩ i tt := ⟨_, rfl⟩
      obtain ⟨f, hf⟩ : ∃ f : Int, f = if May ⟨b, t, l1⟩ then 0 else 1 := ⟨_, rfl⟩
      have HF0 : Hid (f0 = f ∧ f1 = f) := by
        by_cases hm : May ⟨b, t, l1⟩
        · rw [lastR_ok hm] at h14
          rw [newR_ok hm] at h15
          rw [if_pos hm] at hf
          injection h14 with h14 _
          injection h15 with h15 _
          exact ⟨h14.trans hf.symm, h15.trans hf.symm⟩
        · rw [lastR_bad hm] at h14
          rw [newR_bad hm] at h15
          rw [if_neg hm] at hf
          injection h14 with h14 _
          injection h15 with h15 _
          exact ⟨h14.trans hf.symm, h15.trans hf.symm⟩
      have H9 := hide h9
      have H10 := hide h10
      have H11 := hide h11
      have H12 := hide h12
      have H13 := hide h13
      have H14 := hide h14
      have H15 := hide h15
      have HF := hide hf
      clear h9 h10 h11 h12 h13 h14 h15 hf
      go_cut [8, 9, 10, 11, 12, 13, 17, 18, 19, 20, 21] from 63 to 165 (fun s8 s9 s10 s11 s12 s13 s17 s18 s19 s20 s21 wx => ∃ (ap : Option Addr) (np cp : Nat), s8 = .int .i64 f ∧ s9 = .int .i64 x9 ∧ s10 = .int .i64 x10 ∧ s11 = .int .i64 x11 ∧ s12 = .int .i64 x12 ∧ s13 = .int .i64 x13 ∧ s17 = .slice ap np cp ∧ s18 = .int .i64 la ∧ s19 = .int .i64 ta ∧ s20 = .int .i64 att ∧ s21 = .bool nb ∧ Hid (LgAt wx wm.heap.size ⟨ab, abt, aes⟩ ∧ LgAt wx (wm.heap.size + 1) ⟨bb, bbt, bes⟩ ∧ LgAt wx (wm.heap.size + 2) ⟨db, dbt, des⟩ ∧ Es wx ap np cp lp) ∧ Hid (Below wm.heap.size wm wx))
      case first =>
        by_cases hm : May ⟨b, t, l1⟩
        · have HM := hide hm
          have hdt : dm = true := by rw [unhide HDM]; exact decide_eq_true hm
          subst hdt
          have HI : Hid (lastI ⟨b, t, l1⟩ = b + (n1 : Int)) := by
            show _ = _
            unfold lastI
            rw [(unhide H1).1]
          have hb1 : 0 ≤ b := hm.1.1
          have hb2 : b ≤ 1099511625728 := hm.1.2.1
          have hn5 : n1 ≤ 512 := by have := hm.2.1; rw [(unhide H1).1] at this; exact this
          have hpc : n1 ≤ p1 := (unhide H1).2.1
          as_aux_lemma =>
            have h9 := (unhide H9).trans (chkR_ok hm _)
            have h10 := (unhide H10).trans (chkR_ok hm _)
            have h11 := (unhide H11).trans (chkS_ok hm _)
            have h12 := (unhide H12).trans (chkR_ok hm _)
            have h13 := (unhide H13).trans (termR_ok hm i)
            have h14 := (unhide H14).trans (lastR_ok hm)
            have h15 := (unhide H15).trans (newR_ok hm i tt)
            have hf := (unhide HF).trans (if_pos hm)
            have HA9 : Hid (apR ⟨b, t, l1⟩ l2 = (x9, ⟨ab, abt, aes⟩)) := h9.symm
            have HA10 := hide h10
            have HA11 := hide h11
            have HA12 := hide h12
            have HA13 := hide h13
            injection h14 with h14a h14
            injection h14 with h14b h14c
            injection h15 with h15a h15b
            have hla : la = b + (n1 : Int) := h14b.trans (unhide HI)
            have HLA : Hid (lastI ⟨b, t, l1⟩ = la) := h14b.symm
            have HTA : Hid (lastT ⟨b, t, l1⟩ = ta) := h14c.symm
            have HNB : Hid (newB ⟨b, t, l1⟩ i tt = nb) := h15b.symm
            have HLAB := hide hla
            have hla0 : 0 ≤ la := by omega
            have hla1 : la ≤ 1099511626240 := by omega
            have hwla : IntKind.i64.wrap (la + 1) = la + 1 := by rw [IntKind.wrap_i64]; omega
            subst hf
            clear h9 h10 h11 h12 h13 h14a h14b h14c h15a h15b hla H9 H10 H11 H12 H13 H14 H15 HF HF0 HDM hm HI
            have HG3 : Hid (LgO w3 wm.heap.size (wm.heap.size + 3) lo0 ∧ LgO w3 (wm.heap.size + 1) (wm.heap.size + 3) lo0 ∧ LgO w3 (wm.heap.size + 2) (wm.heap.size + 3) lo0) := ⟨LgO.zero (unhide HRA), LgO.zero (unhide HRB), LgO.zero (unhide HRD)⟩
            clear HRA HRB HRD
            obtain ⟨⟨q0, q1, q2, q3, q4, q5, q6⟩, _⟩ := unhide HCM _ (unhide HB3)
            go_wp2_with fail
            refine (lastP_any b t a1 n1 p1 l1 w3 (unhide HCM _ (unhide HB3)).2.2.2.2.1 (unhide HM)).mono ?_
            rw [unhide HLA, unhide HTA]
            rintro e w4 ⟨rfl, hb⟩
            have HB4 : Hid (Below wm.heap.size wm w4) := bnx (unhide HB3) hb
            have HS4 : Hid (Below w3.heap.size w3 w4) := hb
            clear hb
            clear q0 q1 q2 q3 q4 q5 q6
            obtain ⟨⟨q0, q1, q2, q3, q4, q5, q6⟩, _⟩ := unhide HCM _ (unhide HB4)
            go_wp2_with fail
            refine (appP_any b t a1 n1 p1 l1 a2 n2 p2 l2 w4 (unhide HCM _ (unhide HB4)).2.2.2.2.1 (unhide HCM _ (unhide HB4)).2.2.2.2.2 (unhide HM)).mono ?_
            rw [unhide HA9]
            rintro e w5 ⟨⟨aA, nA, cA, rfl, HOA⟩, HBx⟩
            dsimp only
            dsimp only at HOA
            have HB5 : Hid (Below wm.heap.size wm w5) := bnx (unhide HB4) (unhide HBx)
            have hs4 : wm.heap.size + 3 ≤ w4.heap.size := by have := (unhide HS4).size; omega
            obtain ⟨hg1, hg2, hg3⟩ := unhide HG3
            have hS : Below w3.heap.size w3 w5 := bnx (unhide HS4) (unhide HBx)
            have HG1 := hide (hg1.below hS)
            have HG2 := hide (hg2.below hS)
            have HG4 := hide (hg3.below hS)
            clear hg1 hg2 hg3 hS HG3 HS4 HBx
            clear q0 q1 q2 q3 q4 q5 q6
            obtain ⟨⟨q0, q1, q2, q3, q4, q5, q6⟩, _⟩ := unhide HCM _ (unhide HB5)
            obtain ⟨az, nz, cz, hbz, _⟩ := unhide HG1
            have HBZ := hide hbz
            obtain ⟨⟨y0, y1, y2⟩, g0, g1, g2⟩ := bx_slot hbz
            clear hbz
            go_upto_region 19 with fail
            obtain ⟨w6, hw6⟩ : ∃ w6, w6 = put3 w5 wm.heap.size (.int .i64 ab) (.int .i64 abt) (.slice aA nA cA) := ⟨_, rfl⟩
            change Code.wp _ _ _ _ (put3 w5 wm.heap.size (.int .i64 ab) (.int .i64 abt) (.slice aA nA cA))
            rw [← hw6]
            have HB6 : Hid (Below wm.heap.size wm w6) := by show Below _ _ _; rw [hw6]; exact put3_below (unhide HB5) (Nat.le_refl _)
            have HG6 : Hid (LgO w6 wm.heap.size (wm.heap.size + 3) ⟨ab, abt, aes⟩ ∧ LgO w6 (wm.heap.size + 1) (wm.heap.size + 3) lo0 ∧ LgO w6 (wm.heap.size + 2) (wm.heap.size + 3) lo0) := by
              show _ ∧ _ ∧ _
              rw [hw6]
              exact ⟨LgO.lay (L := ⟨ab, abt, aes⟩) (unhide HBZ) ((unhide HOA).mono hs4) (by omega), (unhide HG2).put3 (by omega) (by omega), (unhide HG4).put3 (by omega) (by omega)⟩
            clear hw6 HG1 HG2 HG4 HOA HBZ HA9 y0 y1 y2 g0 g1 g2 HB5 HB4 hs4 HTA
            clear q0 q1 q2 q3 q4 q5 q6
            obtain ⟨ca, hca⟩ : ∃ ca, ca = decide (b ≤ i ∧ i ≤ la) := ⟨_, rfl⟩
            have Hca := hide hca
            clear hca
            go_cut [98] from 87 to 98 (fun s98 wx => s98 = .bool ca ∧ wx = w6)
            case first =>
              obtain ⟨⟨q0, q1, q2, q3, q4, q5, q6⟩, _⟩ := unhide HCM _ (unhide HB6)
              by_cases h1 : b ≤ i
              · by_cases h2 : i ≤ la
                · have hcc : true = ca := by rw [unhide Hca]; exact (decide_eq_true ⟨h1, h2⟩).symm
                  have HCC := hide hcc
                  clear hcc
                  go_wp2
                  go_meet
                  case rel => exact ⟨congrArg Value.bool (unhide HCC), rfl⟩
                · have hcc : false = ca := by rw [unhide Hca]; exact (decide_eq_false (fun h => h2 h.2)).symm
                  have HCC := hide hcc
                  clear hcc
                  go_wp2
                  go_meet
                  case rel => exact ⟨congrArg Value.bool (unhide HCC), rfl⟩
              · have hcc : false = ca := by rw [unhide Hca]; exact (decide_eq_false (fun h => h1 h.1)).symm
                have HCC := hide hcc
                clear hcc
                go_wp2
                go_meet
                case rel => exact ⟨congrArg Value.bool (unhide HCC), rfl⟩
            case rest =>
            obtain ⟨hs98, hwc⟩ := hcut
            subst hs98
            obtain rfl := hwc.symm
            go_upto_if 98 with fail
            go_cut [10] from 99 to 103 (fun s10 wx => s10 = .int .i64 x10 ∧ Hid (LgO wx wm.heap.size (wm.heap.size + 3) ⟨ab, abt, aes⟩ ∧ LgO wx (wm.heap.size + 1) (wm.heap.size + 3) ⟨bb, bbt, bes⟩ ∧ LgO wx (wm.heap.size + 2) (wm.heap.size + 3) lo0) ∧ Hid (Below wm.heap.size wm wx))
            case first =>
              cases ca
              · have hn : ¬ (b ≤ i ∧ i ≤ la) := of_decide_eq_false (unhide Hca).symm
                have h10 := unhide HA10
                unfold cutR at h10
                rw [unhide HLA, if_neg hn] at h10
                cases h10
                clear hn
                go_wp2
                go_meet
                case rel => exact ⟨rfl, HG6, HB6⟩
              · obtain ⟨hc1, hc2⟩ := of_decide_eq_true (unhide Hca).symm
                obtain ⟨q, hq⟩ : ∃ q : Nat, i = b + (q : Int) := ⟨(i - b).toNat, by omega⟩
                have h10 := unhide HA10
                unfold cutR cutL at h10
                rw [unhide HLA, if_pos ⟨hc1, hc2⟩] at h10
                dsimp only at h10
                rw [show (i - b).toNat = q by omega] at h10
                have hqn : q ≤ n1 := by have := unhide HLAB; omega
                cases h10
                have HQ := hide hq
                clear hc1 hc2 hq
                obtain ⟨⟨q0, q1, q2, q3, q4, q5, q6⟩, _⟩ := unhide HCM _ (unhide HB6)
                go_wp2_with fail
                rw [unhide HQ]
                refine (cutP_any b t a1 n1 p1 q l1 w6 (unhide HCM _ (unhide HB6)).2.2.2.2.1 (by omega) hqn).mono ?_
                rintro e w7 ⟨⟨aB, nB, cB, rfl, HOB⟩, HBx⟩
                have HB7 : Hid (Below wm.heap.size wm w7) := bnx (unhide HB6) (unhide HBx)
                obtain ⟨hg1, hg2, hg3⟩ := unhide HG6
                have HG1 := hide (hg1.below (unhide HBx))
                have HG4 := hide (hg3.below (unhide HBx))
                have hs6 : wm.heap.size + 3 ≤ w6.heap.size := by
                  obtain ⟨_, _, _, hz, _⟩ := hg3
                  have := hz.lt; omega
                obtain ⟨az, nz, cz, hbz, _⟩ := hg2.below (unhide HBx)
                have HBZ := hide hbz
                obtain ⟨⟨y0, y1, y2⟩, g0, g1, g2⟩ := bx_slot hbz
                clear hbz hg1 hg2 hg3 HBx q0 q1 q2 q3 q4 q5 q6
                go_wp2
                go_meet
                case rel => exact ⟨rfl, ⟨(unhide HG1).put3 (by omega) (by omega), LgO.lay (L := ⟨b, t, l1.take q⟩) (unhide HBZ) ((unhide HOB).mono hs6) (by omega), (unhide HG4).put3 (by omega) (by omega)⟩, put3_below (unhide HB7) (by omega)⟩
            case rest =>
            as_aux_lemma =>
              obtain ⟨hs10, HG7, HB7⟩ := hcut
              subst hs10
              clear HG6 HB6 Hca HA10
              obtain ⟨w7, hw7⟩ : ∃ w7, w7 = wc := ⟨_, rfl⟩
              subst hw7
              obtain ⟨cb, hcb⟩ : ∃ cb, cb = decide (b < i ∧ i ≤ la + 1) := ⟨_, rfl⟩
              have Hcb := hide hcb
              clear hcb
              obtain ⟨⟨q0, q1, q2, q3, q4, q5, q6⟩, _⟩ := unhide HCM _ (unhide HB7)
              go_upto_region 22 with fail
              go_cut [116] from 104 to 116 (fun s116 wx => s116 = .bool cb ∧ wx = w7)
              case first =>
                by_cases h1 : b < i
                · by_cases h2 : i ≤ la + 1
                  · have hcc : true = cb := by rw [unhide Hcb]; exact (decide_eq_true ⟨h1, h2⟩).symm
                    have HCC := hide hcc
                    clear hcc
                    go_wp2
                    go_meet
                    case rel => exact ⟨congrArg Value.bool (unhide HCC), rfl⟩
                  · have hcc : false = cb := by rw [unhide Hcb]; exact (decide_eq_false (fun h => h2 h.2)).symm
                    have HCC := hide hcc
                    clear hcc
                    go_wp2
                    go_meet
                    case rel => exact ⟨congrArg Value.bool (unhide HCC), rfl⟩
                · have hcc : false = cb := by rw [unhide Hcb]; exact (decide_eq_false (fun h => h1 h.1)).symm
                  have HCC := hide hcc
                  clear hcc
                  go_wp2
                  go_meet
                  case rel => exact ⟨congrArg Value.bool (unhide HCC), rfl⟩
              case rest =>
              obtain ⟨hs116, hwc⟩ := hcut
              subst hs116
              obtain rfl := hwc.symm
              go_upto_if 116 with fail
              go_cut [11, 17] from 117 to 126 (fun s11 s17 wx => ∃ (ap : Option Addr) (np cp : Nat), s11 = .int .i64 x11 ∧ s17 = .slice ap np cp ∧ Hid (Es wx ap np cp lp) ∧ Hid (Below w7.heap.size w7 wx))
              case first =>
                cases cb
                · have hn : ¬ (b < i ∧ i ≤ la + 1) := of_decide_eq_false (unhide Hcb).symm
                  have h11 := unhide HA11
                  unfold partR at h11
                  rw [unhide HLA, if_neg hn] at h11
                  cases h11
                  clear hn q0 q1 q2 q3 q4 q5 q6
                  go_wp2
                  go_meet
                  case rel => exact ⟨none, 0, 0, rfl, rfl, (OwnL.nil2 w7 0).es, Below.refl _ _⟩
                · have hc := of_decide_eq_true (unhide Hcb).symm
                  have h11 := unhide HA11
                  unfold partR at h11
                  rw [unhide HLA, if_pos hc] at h11
                  by_cases hk0 : kk < 0
                  · rw [if_pos hk0] at h11
                    cases h11
                    have hk1 : ¬ 0 ≤ kk := by omega
                    clear hc
                    go_wp2
                    go_meet
                    case rel => exact ⟨none, 0, 0, rfl, rfl, (OwnL.nil2 w7 0).es, Below.refl _ _⟩
                  · rw [if_neg hk0] at h11
                    have hk1 : 0 ≤ kk := by omega
                    obtain ⟨q, hq⟩ : ∃ q : Nat, i = b + 1 + (q : Int) := ⟨(i - b - 1).toNat, by omega⟩
                    obtain ⟨N, hN⟩ : ∃ N : Nat, kk = (N : Int) := ⟨kk.toNat, by omega⟩
                    have hqn : q ≤ n1 := by have := unhide HLAB; omega
                    obtain ⟨m, hm⟩ : ∃ m, m = min N (n1 - q) := ⟨_, rfl⟩
                    have h11b : (x11, lp) = (0, (l1.drop q).take m) := by
                      rw [h11]
                      unfold partL
                      dsimp only
                      rw [show (i - b - 1).toNat = q by omega, show kk.toNat = N by omega, hm, ← (unhide H1).1, ← List.length_drop, List.take_eq_take_min]
                    cases h11b
                    have HQ := hide hq
                    have HN := hide hN
                    have HMM := hide hm
                    clear hc h11 hq hN hm hk0
                    go_wp2_with fail
                    rw [unhide HQ, unhide HN]
                    refine (sliP_any b t a1 n1 p1 q N m l1 w7 (unhide HCM _ (unhide HB7)).2.2.2.2.1 hqn hn5 (unhide HMM)).mono ?_
                    rintro e w8 ⟨⟨aS, nS, cS, rfl, HOS⟩, HBx⟩
                    clear q0 q1 q2 q3 q4 q5 q6
                    go_wp2
                    go_meet
                    case rel => exact ⟨aS, nS, cS, rfl, rfl, (unhide HOS).es, HBx⟩
              case rest =>
              obtain ⟨ap, np, cp, hs11, hs17, HEP, HBx⟩ := hcut
              subst hs11
              subst hs17
              have HG8 : Hid (LgO wc wm.heap.size (wm.heap.size + 3) ⟨ab, abt, aes⟩ ∧ LgO wc (wm.heap.size + 1) (wm.heap.size + 3) ⟨bb, bbt, bes⟩ ∧ LgO wc (wm.heap.size + 2) (wm.heap.size + 3) lo0) := ⟨(unhide HG7).1.below (unhide HBx), (unhide HG7).2.1.below (unhide HBx), (unhide HG7).2.2.below (unhide HBx)⟩
              have HB8 : Hid (Below wm.heap.size wm wc) := bnx (unhide HB7) (unhide HBx)
              clear HG7 HBx Hcb HA11 HB7 q0 q1 q2 q3 q4 q5 q6
              obtain ⟨w8, hw8⟩ : ∃ w8, w8 = wc := ⟨_, rfl⟩
              subst hw8
              obtain ⟨cd, hcd⟩ : ∃ cd, cd = decide (b < i ∧ i ≤ la ∧ i ≤ 1099511625728) := ⟨_, rfl⟩
              have Hcd := hide hcd
              clear hcd
              obtain ⟨⟨q0, q1, q2, q3, q4, q5, q6⟩, _⟩ := unhide HCM _ (unhide HB8)
              go_upto_region 26 with fail
              go_cut [143] from 127 to 143 (fun s143 wx => s143 = .bool cd ∧ wx = w8)
              case first =>
                by_cases h1 : b < i
                · by_cases h2 : i ≤ la
                  · by_cases h3 : i ≤ 1099511625728
                    · have hcc : true = cd := by rw [unhide Hcd]; exact (decide_eq_true ⟨h1, h2, h3⟩).symm
                      have HCC := hide hcc
                      clear hcc
                      go_wp2
                      go_meet
                      case rel => exact ⟨congrArg Value.bool (unhide HCC), rfl⟩
                    · have hcc : false = cd := by rw [unhide Hcd]; exact (decide_eq_false (fun h => h3 h.2.2)).symm
                      have HCC := hide hcc
                      clear hcc
                      go_wp2
                      go_meet
                      case rel => exact ⟨congrArg Value.bool (unhide HCC), rfl⟩
                  · have hcc : false = cd := by rw [unhide Hcd]; exact (decide_eq_false (fun h => h2 h.2.1)).symm
                    have HCC := hide hcc
                    clear hcc
                    go_wp2
                    go_meet
                    case rel => exact ⟨congrArg Value.bool (unhide HCC), rfl⟩
                · have hcc : false = cd := by rw [unhide Hcd]; exact (decide_eq_false (fun h => h1 h.1)).symm
                  have HCC := hide hcc
                  clear hcc
                  go_wp2
                  go_meet
                  case rel => exact ⟨congrArg Value.bool (unhide HCC), rfl⟩
              case rest =>
              obtain ⟨hs143, hwc⟩ := hcut
              subst hs143
              obtain rfl := hwc.symm
              go_upto_if 143 with fail
              go_cut [12] from 144 to 148 (fun s12 wx => s12 = .int .i64 x12 ∧ Hid (LgO wx wm.heap.size (wm.heap.size + 3) ⟨ab, abt, aes⟩ ∧ LgO wx (wm.heap.size + 1) (wm.heap.size + 3) ⟨bb, bbt, bes⟩ ∧ LgO wx (wm.heap.size + 2) (wm.heap.size + 3) ⟨db, dbt, des⟩) ∧ Hid (Es wx ap np cp lp) ∧ Hid (Below wm.heap.size wm wx))
              case first =>
                cases cd
                · have hn : ¬ (b < i ∧ i ≤ la ∧ i ≤ 1099511625728) := of_decide_eq_false (unhide Hcd).symm
                  have h12 := unhide HA12
                  unfold comR at h12
                  rw [unhide HLA, if_neg hn] at h12
                  cases h12
                  clear hn q0 q1 q2 q3 q4 q5 q6
                  go_wp2
                  go_meet
                  case rel => exact ⟨rfl, HG8, HEP, HB8⟩
                · have hc := of_decide_eq_true (unhide Hcd).symm
                  obtain ⟨q, hq⟩ : ∃ q : Nat, i = b + (q : Int) := ⟨(i - b).toNat, by omega⟩
                  have h12 := unhide HA12
                  unfold comR comL at h12
                  rw [unhide HLA, if_pos hc] at h12
                  dsimp only at h12
                  rw [show (i - b).toNat = q by omega, hq] at h12
                  have hqn : q ≤ n1 := by have := unhide HLAB; omega
                  cases h12
                  have HQ := hide hq
                  clear hc hq
                  go_wp2_with fail
                  rw [unhide HQ]
                  refine (comP_any b t a1 n1 p1 q l1 w8 (unhide HCM _ (unhide HB8)).2.2.2.2.1 (unhide HM) hqn hn5).mono ?_
                  rintro e w9 ⟨⟨aD, nD, cD, rfl, HOD⟩, HBx⟩
                  have HB9 : Hid (Below wm.heap.size wm w9) := bnx (unhide HB8) (unhide HBx)
                  obtain ⟨hg1, hg2, hg3⟩ := unhide HG8
                  have HG1 := hide (hg1.below (unhide HBx))
                  have HG2 := hide (hg2.below (unhide HBx))
                  have HEP9 := hide ((unhide HEP).below (unhide HBx))
                  have hs8 : wm.heap.size + 3 ≤ w8.heap.size := by
                    obtain ⟨_, _, _, hz, _⟩ := hg3
                    have := hz.lt; omega
                  obtain ⟨az, nz, cz, hbz, _⟩ := hg3.below (unhide HBx)
                  have HBZ := hide hbz
                  obtain ⟨⟨y0, y1, y2⟩, g0, g1, g2⟩ := bx_slot hbz
                  clear hbz hg1 hg2 hg3 HBx q0 q1 q2 q3 q4 q5 q6
                  go_wp2
                  go_meet
                  case rel => exact ⟨rfl, ⟨(unhide HG1).put3 (by omega) (by omega), (unhide HG2).put3 (by omega) (by omega), LgO.lay (L := ⟨b + (q : Int), tmB t l1 q, l1.drop q⟩) (unhide HBZ) ((unhide HOD).mono hs8) (by omega)⟩, es_put_bx (unhide HEP9) (unhide HBZ), put3_below (unhide HB9) (by omega)⟩
              case rest =>
              obtain ⟨hs12, HG9, HEP9, HB9⟩ := hcut
              subst hs12
              clear HG8 HB8 Hcd HA12 HEP q0 q1 q2 q3 q4 q5 q6
              obtain ⟨w9, hw9⟩ : ∃ w9, w9 = wc := ⟨_, rfl⟩
              subst hw9
              obtain ⟨d, hd⟩ : ∃ d, d = termAt ⟨b, t, l1⟩ i := ⟨_, rfl⟩
              have HTC := hide (termP_any b t a1 n1 p1 l1 i w9 (unhide HCM _ (unhide HB9)).2.2.2.2.1 (unhide HM))
              rw [← hd] at HTC
              have h13 := unhide HA13
              rw [← hd] at h13
              clear hd HA13
              obtain ⟨⟨q0, q1, q2, q3, q4, q5, q6⟩, _⟩ := unhide HCM _ (unhide HB9)
              rcases d with _ | y
              · cases h13
                go_wp2_with fail
                refine (unhide HTC).mono ?_
                unfold tmRes2
                rintro e w10 ⟨rfl, hb⟩
                have HB10 : Hid (Below wm.heap.size wm w10) := bnx (unhide HB9) hb
                have HS10 : Hid (Below w9.heap.size w9 w10) := hb
                clear hb HTC
                clear q0 q1 q2 q3 q4 q5 q6
                obtain ⟨⟨q0, q1, q2, q3, q4, q5, q6⟩, _⟩ := unhide HCM _ (unhide HB10)
                go_wp2_with fail
                refine (newP_any b t a1 n1 p1 l1 i tt w10 (unhide HCM _ (unhide HB10)).2.2.2.2.1 (unhide HM)).mono ?_
                rw [unhide HNB]
                rintro e w11 ⟨rfl, hb⟩
                have HB11 : Hid (Below wm.heap.size wm w11) := bnx (unhide HB10) hb
                have HS11 : Hid (Below w9.heap.size w9 w11) := bnx (unhide HS10) hb
                clear hb
                clear q0 q1 q2 q3 q4 q5 q6
                go_wp2
                go_meet
                case rel => exact ⟨ap, np, cp, rfl, rfl, rfl, rfl, rfl, rfl, rfl, rfl, rfl, rfl, rfl, ⟨((unhide HG9).1.below (unhide HS11)).at, ((unhide HG9).2.1.below (unhide HS11)).at, ((unhide HG9).2.2.below (unhide HS11)).at, (unhide HEP9).below (unhide HS11)⟩, HB11⟩
              · cases h13
                go_wp2_with fail
                refine (unhide HTC).mono ?_
                unfold tmRes2
                rintro e w10 ⟨rfl, hb⟩
                have HB10 : Hid (Below wm.heap.size wm w10) := bnx (unhide HB9) hb
                have HS10 : Hid (Below w9.heap.size w9 w10) := hb
                clear hb HTC
                clear q0 q1 q2 q3 q4 q5 q6
                obtain ⟨⟨q0, q1, q2, q3, q4, q5, q6⟩, _⟩ := unhide HCM _ (unhide HB10)
                go_wp2_with fail
                refine (newP_any b t a1 n1 p1 l1 i tt w10 (unhide HCM _ (unhide HB10)).2.2.2.2.1 (unhide HM)).mono ?_
                rw [unhide HNB]
                rintro e w11 ⟨rfl, hb⟩
                have HB11 : Hid (Below wm.heap.size wm w11) := bnx (unhide HB10) hb
                have HS11 : Hid (Below w9.heap.size w9 w11) := bnx (unhide HS10) hb
                clear hb
                clear q0 q1 q2 q3 q4 q5 q6
                go_wp2
                go_meet
                case rel => exact ⟨ap, np, cp, rfl, rfl, rfl, rfl, rfl, rfl, rfl, rfl, rfl, rfl, rfl, ⟨((unhide HG9).1.below (unhide HS11)).at, ((unhide HG9).2.1.below (unhide HS11)).at, ((unhide HG9).2.2.below (unhide HS11)).at, (unhide HEP9).below (unhide HS11)⟩, HB11⟩
        · have hdf : dm = false := by rw [unhide HDM]; exact decide_eq_false hm
          subst hdf
          have e9 := unhide H9
          have e10 := unhide H10
          have e11 := unhide H11
          have e12 := unhide H12
          have e13 := unhide H13
          have e14 := unhide H14
          have e15 := unhide H15
          have ef := unhide HF
          rw [chkR_bad hm] at e9 e10 e12
          rw [chkS_bad hm] at e11
          rw [termR_bad hm] at e13
          rw [lastR_bad hm] at e14
          rw [newR_bad hm] at e15
          rw [if_neg hm] at ef
          unfold lo0 at e9 e10 e12
          cases e9
          cases e10
          cases e11
          cases e12
          cases e13
          cases e14
          cases e15
          subst ef
          clear H9 H10 H11 H12 H13 H14 H15 HF HF0 HDM
          go_wp2
          go_meet
          case rel => exact ⟨none, 0, 0, rfl, rfl, rfl, rfl, rfl, rfl, rfl, rfl, rfl, rfl, rfl, ⟨⟨none, 0, 0, unhide HRA, (OwnL.nil w3 0).es⟩, ⟨none, 0, 0, unhide HRB, (OwnL.nil w3 0).es⟩, ⟨none, 0, 0, unhide HRD, (OwnL.nil w3 0).es⟩, (OwnL.nil2 w3 0).es⟩, HB3⟩
      case rest =>
        as_aux_lemma =>
          obtain ⟨ap, np, cp, e8, e9, e10, e11, e12, e13, e17, e18, e19, e20, e21, HLG, HBc⟩ := hcut
          subst e8 e9 e10 e11 e12 e13 e17 e18 e19 e20 e21
          obtain ⟨rfl, rfl⟩ := unhide HF0
          have HBw : Hid (Below w.heap.size w wc) := bnx (unhide HBm) (unhide HBc)
          have HAL : Hid (∀ W, Below wc.heap.size wc W → (W.cell? ⟨P, 0, none⟩ = some (.int .i64 b) ∧ W.cell? ⟨P, 1, none⟩ = some (.int .i64 t) ∧ W.cell? ⟨P, 2, none⟩ = some (.slice a1 n1 p1) ∧ W.cell? ⟨P, 3, none⟩ = some (.int .i64 i) ∧ W.cell? ⟨P, 4, none⟩ = some (.int .i64 tt) ∧ W.cell? ⟨P, 5, none⟩ = some (.slice a2 n2 p2) ∧ W.cell? ⟨P, 6, none⟩ = some (.int .i64 kk)) ∧ (W.cell? ⟨X, 0, none⟩ = some (.int .i64 b) ∧ W.cell? ⟨X, 1, none⟩ = some (.int .i64 t) ∧ W.cell? ⟨X, 2, none⟩ = some (.slice ax n1 cx)) ∧ Es W ax n1 cx l1 ∧ Es W ae n2 ce l2 ∧ Es W a1 n1 p1 l1 ∧ Es W a2 n2 p2 l2 ∧ LgAt W wm.heap.size ⟨ab, abt, aes⟩ ∧ LgAt W (wm.heap.size + 1) ⟨bb, bbt, bes⟩ ∧ LgAt W (wm.heap.size + 2) ⟨db, dbt, des⟩ ∧ Es W ap np cp lp) := fun W hW => by
            obtain ⟨h1, h2, h3, h4, h5, h6⟩ := unhide HCM _ (bnx (unhide HBc) hW)
            obtain ⟨g1, g2, g3, g4⟩ := unhide HLG
            exact ⟨h1, h2, h3, h4, h5, h6, g1.below hW, g2.below hW, g3.below hW, g4.below hW⟩
          have HB0 : Hid (Below wc.heap.size wc wc) := Below.refl _ _
          clear HLG HCM HBc HBm HRA HRB HRD HB3 hs3 HDM
          generalize wm.heap.size = WA at HAL ⊢
          obtain ⟨⟨q0, q1, q2, q3, q4, q5, q6⟩, ⟨x0, x1, x2⟩, _⟩ := unhide HAL _ (unhide HB0)
          go_wp2_with fail
          refine (check_any b t ax n1 cx l1 wc (unhide HAL _ (unhide HB0)).2.2.1).mono ?_
          rw [← unhide HF]
          rintro e v1 ⟨E, rfl, HE, hb⟩
          have HB1 : Hid (Below wc.heap.size wc v1) := unhide hb
          clear hb
          clear q0 q1 q2 q3 q4 q5 q6 x0 x1 x2
          go_wp2_with fail
          refine (num_err _ _ _ ((unhide HG).below (bnx (unhide HBw) (unhide HB1)) (unhide HG).pos) (unhide HE)).mono ?_
          rintro e v2 ⟨rfl, hb⟩
          have HB2 : Hid (Below wc.heap.size wc v2) := bnx (unhide HB1) hb
          clear hb HE HB1
          obtain ⟨⟨q0, q1, q2, q3, q4, q5, q6⟩, ⟨x0, x1, x2⟩, _⟩ := unhide HAL _ (unhide HB2)
          go_wp2_with fail
          refine (lastE_any b t ax n1 cx l1 v2 (unhide HAL _ (unhide HB2)).2.2.1).mono ?_
          rw [← unhide H14]
          dsimp only
          rintro e v3 ⟨E1, rfl, HE1, hb⟩
          have HB3 : Hid (Below wc.heap.size wc v3) := bnx (unhide HB2) (unhide hb)
          clear hb
          clear q0 q1 q2 q3 q4 q5 q6 x0 x1 x2
          obtain ⟨⟨q0, q1, q2, q3, q4, q5, q6⟩, ⟨x0, x1, x2⟩, _⟩ := unhide HAL _ (unhide HB3)
          go_wp2_with fail
          refine (termE_any b t ax n1 cx l1 i v3 (unhide HAL _ (unhide HB3)).2.2.1).mono ?_
          rw [← unhide H13]
          dsimp only
          rintro e v4 ⟨E2, rfl, HE2, hb⟩
          have HB4 : Hid (Below wc.heap.size wc v4) := bnx (unhide HB3) (unhide hb)
          have HE14 := hide ((unhide HE1).below (unhide hb))
          clear hb HE1
          clear q0 q1 q2 q3 q4 q5 q6 x0 x1 x2
          obtain ⟨⟨q0, q1, q2, q3, q4, q5, q6⟩, ⟨x0, x1, x2⟩, _⟩ := unhide HAL _ (unhide HB4)
          go_wp2_with fail
          refine (newE_any b t ax n1 cx l1 i tt v4 (unhide HAL _ (unhide HB4)).2.2.1).mono ?_
          rw [← unhide H15]
          dsimp only
          rintro e v5 ⟨E3, rfl, HE3, hb⟩
          have HB5 : Hid (Below wc.heap.size wc v5) := bnx (unhide HB4) (unhide hb)
          have HE15 := hide ((unhide HE14).below (unhide hb))
          have HE25 := hide ((unhide HE2).below (unhide hb))
          clear hb HE14 HE2
          clear q0 q1 q2 q3 q4 q5 q6 x0 x1 x2
          go_wp2_with fail
          refine (num_err _ _ _ ((unhide HG).below (bnx (unhide HBw) (unhide HB5)) (unhide HG).pos) (unhide HE15)).mono ?_
          rintro e v6 ⟨rfl, hb⟩
          have HB6 : Hid (Below wc.heap.size wc v6) := bnx (unhide HB5) hb
          have HE26 := hide ((unhide HE25).below hb)
          have HE36 := hide ((unhide HE3).below hb)
          clear hb HE15 HE25 HE3
          go_wp2_with fail
          refine (num_err _ _ _ ((unhide HG).below (bnx (unhide HBw) (unhide HB6)) (unhide HG).pos) (unhide HE26)).mono ?_
          rintro e v7 ⟨rfl, hb⟩
          have HB7 : Hid (Below wc.heap.size wc v7) := bnx (unhide HB6) hb
          have HE37 := hide ((unhide HE36).below hb)
          clear hb HE26 HE36
          go_wp2_with fail
          refine (num_err _ _ _ ((unhide HG).below (bnx (unhide HBw) (unhide HB7)) (unhide HG).pos) (unhide HE37)).mono ?_
          rintro e v8 ⟨rfl, hb⟩
          have HB8 : Hid (Below wc.heap.size wc v8) := bnx (unhide HB7) hb
          clear hb HE37 HB2 HB3 HB4 HB5 HB6 HB7 H13 H14 H15 HF
          obtain ⟨⟨q0, q1, q2, q3, q4, q5, q6⟩, ⟨x0, x1, x2⟩, _⟩ := unhide HAL _ (unhide HB8)
          as_aux_lemma =>
            have HBv : Hid (Below w.heap.size w v8) := bnx (unhide HBw) (unhide HB8)
            have HAM : Hid (∀ W, Below v8.heap.size v8 W → (W.cell? ⟨P, 0, none⟩ = some (.int .i64 b) ∧ W.cell? ⟨P, 1, none⟩ = some (.int .i64 t) ∧ W.cell? ⟨P, 2, none⟩ = some (.slice a1 n1 p1) ∧ W.cell? ⟨P, 3, none⟩ = some (.int .i64 i) ∧ W.cell? ⟨P, 4, none⟩ = some (.int .i64 tt) ∧ W.cell? ⟨P, 5, none⟩ = some (.slice a2 n2 p2) ∧ W.cell? ⟨P, 6, none⟩ = some (.int .i64 kk)) ∧ (W.cell? ⟨X, 0, none⟩ = some (.int .i64 b) ∧ W.cell? ⟨X, 1, none⟩ = some (.int .i64 t) ∧ W.cell? ⟨X, 2, none⟩ = some (.slice ax n1 cx)) ∧ Es W ax n1 cx l1 ∧ Es W ae n2 ce l2 ∧ Es W a1 n1 p1 l1 ∧ Es W a2 n2 p2 l2 ∧ LgAt W WA ⟨ab, abt, aes⟩ ∧ LgAt W (WA + 1) ⟨bb, bbt, bes⟩ ∧ LgAt W (WA + 2) ⟨db, dbt, des⟩ ∧ Es W ap np cp lp) := fun W hW => unhide HAL W (bnx (unhide HB8) hW)
            have HY0 : Hid (Below v8.heap.size v8 v8) := Below.refl _ _
            clear HAL HBw HB8 HB0
            go_wp2_with fail
            refine (appE_any b t ax n1 cx l1 ae n2 ce l2 v8 (unhide HAM _ (unhide HY0)).2.2.1 (unhide HAM _ (unhide HY0)).2.2.2.1).mono ?_
            rw [← unhide H9]
            rintro e u1 ⟨⟨EU, aU, nU, cU, rfl, HOU, HEU⟩, hb⟩
            dsimp only
            dsimp only at HOU HEU
            obtain ⟨U, hU⟩ : ∃ U, U = u1.heap.size := ⟨_, rfl⟩
            have hal : Below u1.heap.size u1 (u1.alloc (.cells #[.int .i64 ab, .int .i64 abt, .slice aU nU cU] 25)) := (Below.refl _ _).alloc (Nat.le_refl _) _
            have HXU : Hid (Bx (u1.alloc (.cells #[.int .i64 ab, .int .i64 abt, .slice aU nU cU] 25)) U [.int .i64 ab, .int .i64 abt, .slice aU nU cU] 25) := Bx.new _ _ _ _ hU
            have HS1 : Hid (Below v8.heap.size v8 (u1.alloc (.cells #[.int .i64 ab, .int .i64 abt, .slice aU nU cU] 25))) := bnx (unhide hb) hal
            have HY1 : Hid (Below v8.heap.size v8 (u1.alloc (.cells #[.int .i64 ab, .int .i64 abt, .slice aU nU cU] 25))) := bnx (unhide HY0) (unhide HS1)
            have HPU : Hid (OwnL (u1.alloc (.cells #[.int .i64 ab, .int .i64 abt, .slice aU nU cU] 25)) v8.heap.size ⟨ab, abt, aes⟩ aU nU cU) := ((unhide HOU).below hal).mono (unhide HY0).size
            have HFU : Hid (ErrX (u1.alloc (.cells #[.int .i64 ab, .int .i64 abt, .slice aU nU cU] 25)) EU x9) := ((unhide HEU).below hal).errX
            clear hal hb HOU HEU
            clear q0 q1 q2 q3 q4 q5 q6 x0 x1 x2
            go_upto_region 41 with fail
            rw [← hU]
            generalize (u1.alloc (.cells #[.int .i64 ab, .int .i64 abt, .slice aU nU cU] 25)) = y1 at HXU HY1 HS1 HPU HFU ⊢
            clear hU
            obtain ⟨⟨q0, q1, q2, q3, q4, q5, q6⟩, ⟨x0, x1, x2⟩, _⟩ := unhide HAM _ (unhide HY1)
            go_wp2_with fail
            refine (cutE_any b t ax n1 cx l1 i y1 (unhide HAM _ (unhide HY1)).2.2.1).mono ?_
            rw [← unhide H10]
            rintro e u2 ⟨⟨EV, aV, nV, cV, rfl, HOV, HEV⟩, hb⟩
            dsimp only
            dsimp only at HOV HEV
            obtain ⟨V, hV⟩ : ∃ V, V = u2.heap.size := ⟨_, rfl⟩
            have hal : Below u2.heap.size u2 (u2.alloc (.cells #[.int .i64 bb, .int .i64 bbt, .slice aV nV cV] 25)) := (Below.refl _ _).alloc (Nat.le_refl _) _
            have HXV : Hid (Bx (u2.alloc (.cells #[.int .i64 bb, .int .i64 bbt, .slice aV nV cV] 25)) V [.int .i64 bb, .int .i64 bbt, .slice aV nV cV] 25) := Bx.new _ _ _ _ hV
            have HS2 : Hid (Below y1.heap.size y1 (u2.alloc (.cells #[.int .i64 bb, .int .i64 bbt, .slice aV nV cV] 25))) := bnx (unhide hb) hal
            have HY2 : Hid (Below v8.heap.size v8 (u2.alloc (.cells #[.int .i64 bb, .int .i64 bbt, .slice aV nV cV] 25))) := bnx (unhide HY1) (unhide HS2)
            have HPV : Hid (OwnL (u2.alloc (.cells #[.int .i64 bb, .int .i64 bbt, .slice aV nV cV] 25)) v8.heap.size ⟨bb, bbt, bes⟩ aV nV cV) := ((unhide HOV).below hal).mono (unhide HY1).size
            have HFV : Hid (ErrX (u2.alloc (.cells #[.int .i64 bb, .int .i64 bbt, .slice aV nV cV] 25)) EV x10) := ((unhide HEV).below hal).errX
            clear hal hb HOV HEV
            clear q0 q1 q2 q3 q4 q5 q6 x0 x1 x2
            go_upto_region 42 with fail
            rw [← hV]
            generalize (u2.alloc (.cells #[.int .i64 bb, .int .i64 bbt, .slice aV nV cV] 25)) = y2 at HXV HY2 HS2 HPV HFV ⊢
            clear hV
            obtain ⟨⟨q0, q1, q2, q3, q4, q5, q6⟩, ⟨x0, x1, x2⟩, _⟩ := unhide HAM _ (unhide HY2)
            go_wp2_with fail
            refine (sliE_any b t ax n1 cx l1 i kk y2 (unhide HAM _ (unhide HY2)).2.2.1).mono ?_
            rw [← unhide H11]
            rintro e y3 ⟨⟨ES, aS, nS, cS, rfl, HOS, HES⟩, HS3⟩
            dsimp only at HOS HES
            have HY3 : Hid (Below v8.heap.size v8 y3) := bnx (unhide HY2) (unhide HS3)
            clear q0 q1 q2 q3 q4 q5 q6 x0 x1 x2
            obtain ⟨⟨q0, q1, q2, q3, q4, q5, q6⟩, ⟨x0, x1, x2⟩, _⟩ := unhide HAM _ (unhide HY3)
            go_wp2_with fail
            refine (comE_any b t ax n1 cx l1 i y3 (unhide HAM _ (unhide HY3)).2.2.1).mono ?_
            rw [← unhide H12]
            rintro e u4 ⟨⟨EY, aY, nY, cY, rfl, HOY, HEY⟩, hb⟩
            dsimp only
            dsimp only at HOY HEY
            obtain ⟨Y, hY⟩ : ∃ Y, Y = u4.heap.size := ⟨_, rfl⟩
            have hal : Below u4.heap.size u4 (u4.alloc (.cells #[.int .i64 db, .int .i64 dbt, .slice aY nY cY] 25)) := (Below.refl _ _).alloc (Nat.le_refl _) _
            have HXY : Hid (Bx (u4.alloc (.cells #[.int .i64 db, .int .i64 dbt, .slice aY nY cY] 25)) Y [.int .i64 db, .int .i64 dbt, .slice aY nY cY] 25) := Bx.new _ _ _ _ hY
            have HS4 : Hid (Below y3.heap.size y3 (u4.alloc (.cells #[.int .i64 db, .int .i64 dbt, .slice aY nY cY] 25))) := bnx (unhide hb) hal
            have HY4 : Hid (Below v8.heap.size v8 (u4.alloc (.cells #[.int .i64 db, .int .i64 dbt, .slice aY nY cY] 25))) := bnx (unhide HY3) (unhide HS4)
            have HPY : Hid (OwnL (u4.alloc (.cells #[.int .i64 db, .int .i64 dbt, .slice aY nY cY] 25)) v8.heap.size ⟨db, dbt, des⟩ aY nY cY) := ((unhide HOY).below hal).mono (unhide HY3).size
            have HFY : Hid (ErrX (u4.alloc (.cells #[.int .i64 db, .int .i64 dbt, .slice aY nY cY] 25)) EY x12) := ((unhide HEY).below hal).errX
            clear hal hb HOY HEY
            clear q0 q1 q2 q3 q4 q5 q6 x0 x1 x2
            go_upto_region 44 with fail
            rw [← hY]
            generalize (u4.alloc (.cells #[.int .i64 db, .int .i64 dbt, .slice aY nY cY] 25)) = y4 at HXY HY4 HS4 HPY HFY ⊢
            clear hY
            have HZ : Hid (∀ W, Below y4.heap.size y4 W → Bx W U [.int .i64 ab, .int .i64 abt, .slice aU nU cU] 25 ∧ Bx W V [.int .i64 bb, .int .i64 bbt, .slice aV nV cV] 25 ∧ Bx W Y [.int .i64 db, .int .i64 dbt, .slice aY nY cY] 25 ∧ Es W aU nU cU aes ∧ Es W aV nV cV bes ∧ Es W aS nS cS lp ∧ Es W aY nY cY des ∧ ErrX W EU x9 ∧ ErrX W EV x10 ∧ ErrX W ES x11 ∧ ErrX W EY x12) := fun W hW => by
              have h3 : Below y3.heap.size y3 W := bnx (unhide HS4) hW
              have h2 : Below y2.heap.size y2 W := bnx (unhide HS3) h3
              have h1 : Below y1.heap.size y1 W := bnx (unhide HS2) h2
              exact ⟨(unhide HXU).below h1, (unhide HXV).below h2, (unhide HXY).below hW, ((unhide HPU).below h1).es, ((unhide HPV).below h2).es, ((unhide HOS).below h3).es, ((unhide HPY).below hW).es, (unhide HFU).below h1, (unhide HFV).below h2, ((unhide HES).errX).below h3, (unhide HFY).below hW⟩
            have HPU4 : Hid (OwnL y4 v8.heap.size ⟨ab, abt, aes⟩ aU nU cU) := (unhide HPU).below (bnx (bnx (unhide HS2) (unhide HS3)) (unhide HS4))
            have HPV4 : Hid (OwnL y4 v8.heap.size ⟨bb, bbt, bes⟩ aV nV cV) := (unhide HPV).below (bnx (unhide HS3) (unhide HS4))
            have HPS4 : Hid (OwnL y4 v8.heap.size ⟨0, 0, lp⟩ aS nS cS) := ((unhide HOS).below (unhide HS4)).mono (unhide HY2).size
            have HPY4 := HPY
            clear HXU HXV HXY HPU HPV HPY HFU HFV HFY HES HOS HS1 HS2 HS3 HS4 HY0 HY1 HY2 HY3 H9 H10 H11 H12
            as_aux_lemma =>
              have HQ0 : Hid (Below y4.heap.size y4 y4) := Below.refl _ _
              go_wp2_with fail
              refine (num_err _ _ _ ((unhide HG).below (bnx (unhide HBv) (bnx (unhide HY4) (unhide HQ0))) (unhide HG).pos) (unhide HZ _ (unhide HQ0)).2.2.2.2.2.2.2.1).mono ?_
              rintro e z1 ⟨rfl, hb⟩
              have HQ1 : Hid (Below y4.heap.size y4 z1) := bnx (unhide HQ0) hb
              clear hb
              obtain ⟨⟨m0, m1, m2⟩, _⟩ := bx_slot (unhide HZ _ (unhide HQ1)).1
              obtain ⟨aw, nw, cw, hwb, hwe⟩ := (unhide HAM _ (bnx (unhide HY4) (unhide HQ1))).2.2.2.2.2.2.1
              have hul := (unhide HZ _ (unhide HQ1)).2.2.2.1
              have hnn : nU = nw := hul.1.symm.trans hwe.1
              subst hnn
              obtain ⟨⟨k0, k1, k2⟩, _⟩ := bx_slot hwb
              have HWE := hide hwe
              have HUL := hide hul
              clear hwb hwe hul
              go_wp2_with fail
              refine (eqL_same ab abt aU aw nU cU cw aes _ (unhide HUL) (unhide HWE)).mono ?_
              rintro e z2 ⟨rfl, hb⟩
              have HQ2 : Hid (Below y4.heap.size y4 z2) := bnx (unhide HQ1) hb
              clear hb HWE HUL m0 m1 m2 k0 k1 k2
              go_wp2_with fail
              refine (num_err _ _ _ ((unhide HG).below (bnx (unhide HBv) (bnx (unhide HY4) (unhide HQ2))) (unhide HG).pos) (unhide HZ _ (unhide HQ2)).2.2.2.2.2.2.2.2.1).mono ?_
              rintro e z3 ⟨rfl, hb⟩
              have HQ3 : Hid (Below y4.heap.size y4 z3) := bnx (unhide HQ2) hb
              clear hb
              obtain ⟨⟨m0, m1, m2⟩, _⟩ := bx_slot (unhide HZ _ (unhide HQ3)).2.1
              obtain ⟨aw, nw, cw, hwb, hwe⟩ := (unhide HAM _ (bnx (unhide HY4) (unhide HQ3))).2.2.2.2.2.2.2.1
              have hul := (unhide HZ _ (unhide HQ3)).2.2.2.2.1
              have hnn : nV = nw := hul.1.symm.trans hwe.1
              subst hnn
              obtain ⟨⟨k0, k1, k2⟩, _⟩ := bx_slot hwb
              have HWE := hide hwe
              have HUL := hide hul
              clear hwb hwe hul
              go_wp2_with fail
              refine (eqL_same bb bbt aV aw nV cV cw bes _ (unhide HUL) (unhide HWE)).mono ?_
              rintro e z4 ⟨rfl, hb⟩
              have HQ4 : Hid (Below y4.heap.size y4 z4) := bnx (unhide HQ3) hb
              clear hb HWE HUL m0 m1 m2 k0 k1 k2
              go_wp2_with fail
              refine (num_err _ _ _ ((unhide HG).below (bnx (unhide HBv) (bnx (unhide HY4) (unhide HQ4))) (unhide HG).pos) (unhide HZ _ (unhide HQ4)).2.2.2.2.2.2.2.2.2.1).mono ?_
              rintro e z5 ⟨rfl, hb⟩
              have HQ5 : Hid (Below y4.heap.size y4 z5) := bnx (unhide HQ4) hb
              clear hb
              have HUL := hide (unhide HZ _ (unhide HQ5)).2.2.2.2.2.1
              have HWE := hide (unhide HAM _ (bnx (unhide HY4) (unhide HQ5))).2.2.2.2.2.2.2.2.2
              have hlS : lp.length ≤ 140737488351232 := by have h1 := (unhide HUL).1; have h2 := (unhide HUL).2.2.2.1; omega
              go_wp2_with fail
              refine (eqe_same _ _ lp _ (unhide HUL).ens (unhide HWE).ens hlS).mono ?_
              rintro e z6 ⟨rfl, hb⟩
              have HQ6 : Hid (Below y4.heap.size y4 z6) := bnx (unhide HQ5) hb
              clear hb HWE HUL hlS
              go_wp2_with fail
              refine (num_err _ _ _ ((unhide HG).below (bnx (unhide HBv) (bnx (unhide HY4) (unhide HQ6))) (unhide HG).pos) (unhide HZ _ (unhide HQ6)).2.2.2.2.2.2.2.2.2.2).mono ?_
              rintro e z7 ⟨rfl, hb⟩
              have HQ7 : Hid (Below y4.heap.size y4 z7) := bnx (unhide HQ6) hb
              clear hb
              obtain ⟨⟨m0, m1, m2⟩, _⟩ := bx_slot (unhide HZ _ (unhide HQ7)).2.2.1
              obtain ⟨aw, nw, cw, hwb, hwe⟩ := (unhide HAM _ (bnx (unhide HY4) (unhide HQ7))).2.2.2.2.2.2.2.2.1
              have hul := (unhide HZ _ (unhide HQ7)).2.2.2.2.2.2.1
              have hnn : nY = nw := hul.1.symm.trans hwe.1
              subst hnn
              obtain ⟨⟨k0, k1, k2⟩, _⟩ := bx_slot hwb
              have HWE := hide hwe
              have HUL := hide hul
              clear hwb hwe hul
              go_wp2_with fail
              refine (eqL_same db dbt aY aw nY cY cw des _ (unhide HUL) (unhide HWE)).mono ?_
              rintro e z8 ⟨rfl, hb⟩
              have HQ8 : Hid (Below y4.heap.size y4 z8) := bnx (unhide HQ7) hb
              clear hb HWE HUL m0 m1 m2 k0 k1 k2
              obtain ⟨hXU, hXV, hXY, _⟩ := unhide HZ _ (unhide HQ8)
              have HXU := hide hXU
              have HXV := hide hXV
              have HXY := hide hXY
              have HZ8 : Hid (Below v8.heap.size v8 z8) := (bnx (unhide HY4) (unhide HQ8))
              have HOU : Hid (OwnE z8 v8.heap.size 68 4 (.slice aU nU cU) nU) := ⟨_, ((unhide HPU4).below (unhide HQ8)).1⟩
              have HOV : Hid (OwnE z8 v8.heap.size 68 4 (.slice aV nV cV) nV) := ⟨_, ((unhide HPV4).below (unhide HQ8)).1⟩
              have HOS : Hid (OwnE z8 v8.heap.size 68 4 (.slice aS nS cS) nS) := ⟨_, ((unhide HPS4).below (unhide HQ8)).1⟩
              have HOY : Hid (OwnE z8 v8.heap.size 68 4 (.slice aY nY cY) nY) := ⟨_, ((unhide HPY4).below (unhide HQ8)).1⟩
              have hnU : nU ≤ 3518437208780 := by have := (unhide HPU4).2.2; omega
              have hnV : nV ≤ 3518437208780 := by have := (unhide HPV4).2.2; omega
              have hnS : nS ≤ 3518437208780 := by have := (unhide HPS4).2.2; omega
              have hnY : nY ≤ 3518437208780 := by have := (unhide HPY4).2.2; omega
              clear hXU hXV hXY HZ HPU4 HPV4 HPS4 HPY4 HQ0 HQ1 HQ2 HQ3 HQ4 HQ5 HQ6 HQ7 HQ8 HY4
              obtain ⟨⟨m0, m1, m2⟩, _⟩ := bx_slot (unhide HXU)
              go_wp2_with fail
              refine (entries_sp v8.heap.size (.slice aU nU cU) nU _ (unhide HZ8).size hnU (unhide HOU)).mono ?_
              rintro e z9 ⟨rfl, hsf⟩
              have HZ9 : Hid (Below v8.heap.size v8 z9) := sp_bel (unhide HZ8) (unhide HOU) hsf
              replace HXV := hide (sp_bx (unhide HXV) (unhide HOU) hsf)
              replace HXY := hide (sp_bx (unhide HXY) (unhide HOU) hsf)
              replace HOV := hide ((unhide HOV).sf hsf)
              replace HOS := hide ((unhide HOS).sf hsf)
              replace HOY := hide ((unhide HOY).sf hsf)
              clear hsf m0 m1 m2
              obtain ⟨⟨m0, m1, m2⟩, _⟩ := bx_slot (unhide HXV)
              go_wp2_with fail
              refine (entries_sp v8.heap.size (.slice aV nV cV) nV _ (unhide HZ9).size hnV (unhide HOV)).mono ?_
              rintro e z10 ⟨rfl, hsf⟩
              have HZ10 : Hid (Below v8.heap.size v8 z10) := sp_bel (unhide HZ9) (unhide HOV) hsf
              replace HXY := hide (sp_bx (unhide HXY) (unhide HOV) hsf)
              replace HOS := hide ((unhide HOS).sf hsf)
              replace HOY := hide ((unhide HOY).sf hsf)
              clear hsf m0 m1 m2
              go_wp2_with fail
              refine (entries_sp v8.heap.size (.slice aS nS cS) nS _ (unhide HZ10).size hnS (unhide HOS)).mono ?_
              rintro e z11 ⟨rfl, hsf⟩
              have HZ11 : Hid (Below v8.heap.size v8 z11) := sp_bel (unhide HZ10) (unhide HOS) hsf
              replace HXY := hide (sp_bx (unhide HXY) (unhide HOS) hsf)
              replace HOY := hide ((unhide HOY).sf hsf)
              clear hsf
              obtain ⟨⟨m0, m1, m2⟩, _⟩ := bx_slot (unhide HXY)
              go_wp2_with fail
              refine (entries_sp v8.heap.size (.slice aY nY cY) nY _ (unhide HZ11).size hnY (unhide HOY)).mono ?_
              rintro e z12 ⟨rfl, hsf⟩
              have HZ12 : Hid (Below v8.heap.size v8 z12) := sp_bel (unhide HZ11) (unhide HOY) hsf
              clear hsf m0 m1 m2
              clear HXU HXV HXY HOU HOV HOS HOY hnU hnV hnS hnY HZ8 HZ9 HZ10 HZ11
              obtain ⟨⟨q0, q1, q2, q3, q4, q5, q6⟩, ⟨x0, x1, x2⟩, _⟩ := unhide HAM _ (unhide HZ12)
              have HX3 := hide (unhide HAM _ (unhide HZ12)).2.2.1
              have HX5 := hide (unhide HAM _ (unhide HZ12)).2.2.2.2.1
              go_wp2_with fail
              refine (eqL_same b t ax a1 n1 cx p1 l1 z12 (unhide HX3) (unhide HX5)).mono ?_
              rintro e z13 ⟨rfl, hb⟩
              have HZ13 : Hid (Below v8.heap.size v8 z13) := bnx (unhide HZ12) hb
              clear hb HX3 HX5
              clear q0 q1 q2 q3 q4 q5 q6 x0 x1 x2
              obtain ⟨⟨q0, q1, q2, q3, q4, q5, q6⟩, ⟨x0, x1, x2⟩, _⟩ := unhide HAM _ (unhide HZ13)
              have HX4 := hide (unhide HAM _ (unhide HZ13)).2.2.2.1
              have HX6 := hide (unhide HAM _ (unhide HZ13)).2.2.2.2.2.1
              go_wp2_with fail
              refine (eqe_same _ _ l2 z13 (unhide HX4).ens (unhide HX6).ens (by rw [unhide HL2]; omega)).mono ?_
              rintro e z14 ⟨rfl, hb⟩
              have HZ14 : Hid (Below w.heap.size w z14) := bnx (unhide HBv) (bnx (unhide HZ13) hb)
              clear hb HX4 HX6
              clear q0 q1 q2 q3 q4 q5 q6 x0 x1 x2
              go_wp2
              go_roundw
              case rel => exact ⟨k + 1, by omega, by go_num, HZ14⟩
              case measure => simp [intOf]; omega
    · have hend : ¬ (k : Int) < (len : Int) ∨ ¬ (k : Int) < 8 := by omega
      by_cases h9 : (k : Int) < (len : Int)
      · have h9b : ¬ (k : Int) < 8 := by omega
        go_wp2_with fail
        refine (wakes_any _ ((unhide HG).below (unhide HB) (unhide HG).pos)).mono ?_
        rintro e w9 ⟨rfl, hb9⟩
        have HB9 : Hid (Below w.heap.size w w9) := bnx (unhide HB) hb9
        clear hb9
        go_wp2
        go_ret
        exact ⟨rfl, unhide HB9⟩
      · go_wp2_with fail
        refine (wakes_any _ ((unhide HG).below (unhide HB) (unhide HG).pos)).mono ?_
        rintro e w9 ⟨rfl, hb9⟩
        have HB9 : Hid (Below w.heap.size w w9) := bnx (unhide HB) hb9
        clear hb9
        go_wp2
        go_ret
        exact ⟨rfl, unhide HB9⟩
theorem exact15_walk0 (ao : Option Addr) (cap : Nat) (w : World) (hg : Laid w) :
    Calls Tryd.prog 3 #[.slice ao 0 cap] w fun e w' => e = .returned (.bool true) ∧ Below w.heap.size w w' := by
  have HG := hide hg
  have HB : Hid (Below w.heap.size w w) := Below.refl _ _
  clear hg
  go_enter Tryd.func3, Tryd.ntmps3
  go_wp2
  refine wp_loop_rounds 1 ?_
  rw [rounds_succ]
  go_wp2_with fail
  refine (wakes_any _ ((unhide HG).below (unhide HB) (unhide HG).pos)).mono ?_
  rintro e w9 ⟨rfl, hb9⟩
  have HB9 : Hid (Below w.heap.size w w9) := bnx (unhide HB) hb9
  clear hb9
  go_wp2
  go_ret
  exact ⟨rfl, unhide HB9⟩
end Go.Proofs.YtcffbkgkdoaplaaDoor.Et
