/- Proved here: dovecoteref15.Cut, Slice, Compact, Newer of a log that may be. Helper contracts. -/
import Derived.Test.YtcffbkgkdoaplaaDoorZEPb
import Derived.Test.YtcffbkgkdoaplaaDoorZEPu
namespace Go.Proofs.YtcffbkgkdoaplaaDoor.Et
open Go.RowKit Nt
set_option maxRecDepth 100000

/-- a log that the page tells, as it reads -/
def RdP (B : Nat) (w' : World) (b t : Int) (l : List En) (e : Ending) : Prop := ∃ ao n c, e = .returned (.agg #[.int .i64 b, .int .i64 t, .slice ao n c]) ∧ Hid (OwnL w' B ⟨b, t, l⟩ ao n c)
theorem owns_lo {w : World} {B : Nat} {e : TypeId} {s n c : Nat} {ao : Option Addr} {xs : List Value} (h : w.ownsRow B e s (.slice ao n c) n xs) (k : Nat) (hk : k ≤ n) : w.ownsRow B e s (.slice ao k c) k (xs.take (k * s)) := by
  refine ⟨by rw [List.length_take, h.1]; exact Nat.min_eq_left (Nat.mul_le_mul_right s hk), ?_⟩
  rcases h.2 with ⟨e1, h0⟩ | ⟨g, cap, cur, e1, hB, hg, h3, h4, h5, h6⟩
  · simp only [Value.slice.injEq] at e1
    obtain ⟨rfl, _, rfl⟩ := e1
    obtain rfl : k = 0 := by omega
    exact .inl ⟨rfl, rfl⟩
  · simp only [Value.slice.injEq] at e1
    obtain ⟨rfl, _, rfl⟩ := e1
    exact .inr ⟨g, c, cur, rfl, hB, hg, by omega, h4, h5, by rw [← h6, List.take_take, Nat.min_eq_left (Nat.mul_le_mul_right s hk)]⟩
theorem ecs_take (l : List En) (k : Nat) (hk : k ≤ l.length) : (ecs l).take (k * 4) = ecs (l.take k) := by
  have h : ecs l = ecs (l.take k) ++ ecs (l.drop k) := by rw [← ecs_app, List.take_append_drop]
  have hl : (ecs (l.take k)).length = k * 4 := by rw [ecs_length, List.length_take]; omega
  rw [h, List.take_append_of_le_length (by omega), List.take_of_length_le (by omega)]
theorem OwnL.lo {w : World} {B : Nat} {L : Lo} {ao : Option Addr} {n c : Nat} (h : OwnL w B L ao n c) (k : Nat) (hk : k ≤ n) : OwnL w B ⟨L.b, L.t, L.es.take k⟩ ao k c := by
  refine ⟨?_, by show (L.es.take k).length = k; rw [List.length_take, h.2.1]; omega, by have := h.2.2; omega⟩
  have := owns_lo h.1 k hk
  rw [ecs_take L.es k (by rw [h.2.1]; exact hk)] at this
  exact this
set_option maxHeartbeats 4000000 in
theorem cutP_any (b t : Int) (ao : Option Addr) (n cap k : Nat) (l : List En) (w : World) (h : Es w ao n cap l) (hn : n ≤ 1000000) (hk : k ≤ n) :
    Calls Tryd.prog 11 #[.agg #[.int .i64 b, .int .i64 t, .slice ao n cap], .int .i64 (b + (k : Int))] w fun e w' => RdP w.heap.size w' b t (l.take k) e ∧ Hid (Below w.heap.size w w') := by
  have HB0 : Hid (Below w.heap.size w ((w.alloc (.cells #[.int .i64 b, .int .i64 t, .slice ao n cap] 25)).alloc (.cells #[.int .i64 0, .int .i64 0, .slice none 0 0] 25))) := ((Below.refl _ _).alloc (Nat.le_refl _) _).alloc (by simp) _
  have HX0 : Hid (Bx ((w.alloc (.cells #[.int .i64 b, .int .i64 t, .slice ao n cap] 25)).alloc (.cells #[.int .i64 0, .int .i64 0, .slice none 0 0] 25)) w.heap.size [.int .i64 b, .int .i64 t, .slice ao n cap] 25) := (Bx.new w _ _ _ rfl).below ((Below.refl _ _).alloc (Nat.le_refl _) _)
  have HY0 : Hid (Bx ((w.alloc (.cells #[.int .i64 b, .int .i64 t, .slice ao n cap] 25)).alloc (.cells #[.int .i64 0, .int .i64 0, .slice none 0 0] 25)) (w.heap.size + 1) [.int .i64 0, .int .i64 0, .slice none 0 0] 25) := Bx.new _ _ _ _ (by simp)
  have hs0 : ((w.alloc (.cells #[.int .i64 b, .int .i64 t, .slice ao n cap] 25)).alloc (.cells #[.int .i64 0, .int .i64 0, .slice none 0 0] 25)).heap.size = w.heap.size + 2 := by simp
  have HE := hide (h.below (unhide HB0))
  have hi0 : wrap64 (b + (k : Int) - b) = (k : Int) := by unfold wrap64; omega
  have hi1 : b + (k : Int) - b = (k : Int) := by omega
  clear h
  go_enter Tryd.func11, Tryd.ntmps11
  go_wp2_with fail
  refine (copyL_any b t ao n cap l _ (unhide HE) hn).mono ?_
  rintro e w2 ⟨a2, c2, rfl, HO, HB2⟩
  have hkc : k ≤ c2 := by have := (unhide HO).es.2.1; omega
  have hal : Below w2.heap.size w2 (w2.alloc (.cells #[.int .i64 b, .int .i64 t, .slice a2 n c2] 25)) := (Below.refl _ _).alloc (Nat.le_refl _) _
  have HB3 : Hid (Below w.heap.size w (w2.alloc (.cells #[.int .i64 b, .int .i64 t, .slice a2 n c2] 25))) := bnx (bnx (unhide HB0) (unhide HB2)) hal
  have HX3 := hide (((unhide HX0).below (unhide HB2)).below hal)
  have HY3 := hide (((unhide HY0).below (unhide HB2)).below hal)
  have HM3 : Hid (Bx (w2.alloc (.cells #[.int .i64 b, .int .i64 t, .slice a2 n c2] 25)) w2.heap.size [.int .i64 b, .int .i64 t, .slice a2 n c2] 25) := Bx.new _ _ _ _ rfl
  have HO3 := hide (((unhide HO).below hal).lo k hk)
  have HBLK : Hid (∀ g, (Value.slice a2 k c2).ownBlock = some g → w.heap.size + 2 ≤ g ∧ g < w2.heap.size) := fun g hg => by
    have := owns_blk ((unhide HO).lo k hk).1 g hg
    rw [hs0] at this
    exact this
  have hs2 : w.heap.size + 2 ≤ w2.heap.size := by have := (unhide HB2).size; omega
  clear HO HB2 hal HX0 HY0 hs0 HE HB0
  go_upto_region 2 with fail
  generalize w2.alloc (.cells #[.int .i64 b, .int .i64 t, .slice a2 n c2] 25) = w3 at HB3 HX3 HY3 HM3 HO3 ⊢
  obtain ⟨⟨c0, _, _⟩, _⟩ := bx_slot (unhide HX3)
  obtain ⟨⟨m0, m1, m2⟩, mf0, mf1, mf2⟩ := bx_slot (unhide HM3)
  go_upto_region 3 with fail
  have hfr : Fr (fun k => k = w2.heap.size) w3 (w3.setCell ⟨w2.heap.size, 2, none⟩ (.slice a2 k c2)) := set_fr rfl
  have HM4 : Hid (Bx (w3.setCell ⟨w2.heap.size, 2, none⟩ (.slice a2 k c2)) w2.heap.size [.int .i64 b, .int .i64 t, .slice a2 k c2] 25) := (unhide HM3).set 2 _ (by simp)
  have HY4 := hide ((unhide HY3).fr hfr (by omega))
  have HB4 : Hid (Below w.heap.size w (w3.setCell ⟨w2.heap.size, 2, none⟩ (.slice a2 k c2))) := Fr.bel (unhide HB3) hfr (fun i hi => by omega) (unhide HB3).size
  have HO4 : Hid (OwnL (w3.setCell ⟨w2.heap.size, 2, none⟩ (.slice a2 k c2)) ((w.alloc (.cells #[.int .i64 b, .int .i64 t, .slice ao n cap] 25)).alloc (.cells #[.int .i64 0, .int .i64 0, .slice none 0 0] 25)).heap.size ⟨b, t, l.take k⟩ a2 k c2) := ⟨owns_fr (unhide HO3).1 hfr (fun g hg => by have := unhide HBLK g hg; omega), (unhide HO3).2⟩
  generalize w3.setCell ⟨w2.heap.size, 2, none⟩ (.slice a2 k c2) = w4 at HM4 HY4 HB4 HO4 hfr ⊢
  clear c0 m0 m1 m2 mf0 mf1 mf2 hfr HM3 HY3 HB3 HO3 HX3
  obtain ⟨⟨m0, m1, m2⟩, mf0, mf1, mf2⟩ := bx_slot (unhide HM4)
  obtain ⟨⟨y0, y1, y2⟩, f0, f1, f2⟩ := bx_slot (unhide HY4)
  go_wp2
  refine bodyPost_ret (res_l (B := w.heap.size + 1) rfl rfl (put3_bx (unhide HY4) _ _ _)) rfl ?_
  exact ⟨⟨_, _, _, rfl, ((unhide HO4).put3 (by simp)).mono (by simp; omega)⟩, put3_below (unhide HB4) (by omega)⟩
set_option maxHeartbeats 4000000 in
theorem newP_any (b t : Int) (ao : Option Addr) (n cap : Nat) (l : List En) (i u : Int) (w : World) (h : Es w ao n cap l) (hm : May ⟨b, t, l⟩) :
    Calls Tryd.prog 15 #[.agg #[.int .i64 b, .int .i64 t, .slice ao n cap], .int .i64 i, .int .i64 u] w fun e w' => e = .returned (.bool (newB ⟨b, t, l⟩ i u)) ∧ Below w.heap.size w w' := by
  have HB0 : Hid (Below w.heap.size w (w.alloc (.cells #[.int .i64 b, .int .i64 t, .slice ao n cap] 25))) := (Below.refl _ _).alloc (Nat.le_refl _) _
  have HE := hide (h.below (unhide HB0))
  obtain ⟨I, hI⟩ : ∃ I, I = lastI ⟨b, t, l⟩ := ⟨_, rfl⟩
  obtain ⟨T, hT⟩ : ∃ T, T = lastT ⟨b, t, l⟩ := ⟨_, rfl⟩
  have HNB := fun d => @newB_eq ⟨b, t, l⟩ i u d
  rw [← hI, ← hT] at HNB
  have HN := hide HNB
  have HI := hide hI
  have HT := hide hT
  have HM := hide hm
  clear hI hT hm h HNB
  have HLC := hide (lastP_any b t ao n cap l _ (unhide HE) (unhide HM))
  by_cases h1 : T < u
  · have HF : Hid (newB ⟨b, t, l⟩ i u = true) := unhide HN _ (.inl ⟨h1, rfl⟩)
    rw [unhide HF]
    go_enter Tryd.func15, Tryd.ntmps15
    go_wp2_with fail
    refine (unhide HLC).mono ?_
    rw [← unhide HI, ← unhide HT]
    rintro e w3 ⟨rfl, hb3⟩
    have HB3 : Hid (Below w.heap.size w w3) := bnx (unhide HB0) hb3
    clear hb3 HN HLC
    go_wp2
    go_ret
    exact ⟨rfl, unhide HB3⟩
  · by_cases h2 : u = T
    · by_cases h3 : I ≤ i
      · have HF : Hid (newB ⟨b, t, l⟩ i u = true) := unhide HN _ (.inr (.inl ⟨h1, h2, (decide_eq_true h3).symm⟩))
        clear h1
        subst h2
        rw [unhide HF]
        go_enter Tryd.func15, Tryd.ntmps15
        go_wp2_with fail
        refine (unhide HLC).mono ?_
        rw [← unhide HI, ← unhide HT]
        rintro e w3 ⟨rfl, hb3⟩
        have HB3 : Hid (Below w.heap.size w w3) := bnx (unhide HB0) hb3
        clear hb3 HN HLC
        go_wp2
        go_ret
        exact ⟨rfl, unhide HB3⟩
      · have HF : Hid (newB ⟨b, t, l⟩ i u = false) := unhide HN _ (.inr (.inl ⟨h1, h2, (decide_eq_false h3).symm⟩))
        clear h1
        subst h2
        have h3d : decide (I ≤ i) = false := decide_eq_false h3
        rw [unhide HF]
        go_enter Tryd.func15, Tryd.ntmps15
        go_wp2_with fail
        refine (unhide HLC).mono ?_
        rw [← unhide HI, ← unhide HT]
        rintro e w3 ⟨rfl, hb3⟩
        have HB3 : Hid (Below w.heap.size w w3) := bnx (unhide HB0) hb3
        clear hb3 HN HLC
        go_wp2
        go_ret
        exact ⟨rfl, unhide HB3⟩
    · have HF : Hid (newB ⟨b, t, l⟩ i u = false) := unhide HN _ (.inr (.inr ⟨h1, h2, rfl⟩))
      have h1d : decide (T < u) = false := decide_eq_false h1
      have h2d : (u == T) = false := beq_eq_false_iff_ne.2 h2
      rw [unhide HF]
      go_enter Tryd.func15, Tryd.ntmps15
      go_wp2_with fail
      refine (unhide HLC).mono ?_
      rw [← unhide HI, ← unhide HT]
      rintro e w3 ⟨rfl, hb3⟩
      have HB3 : Hid (Below w.heap.size w w3) := bnx (unhide HB0) hb3
      clear hb3 HN HLC
      go_wp2
      go_ret
      exact ⟨rfl, unhide HB3⟩
end Go.Proofs.YtcffbkgkdoaplaaDoor.Et
