/- Proved here: contracts of the index's Remove and Match. Helper contracts. -/
import Derived.Test.YtdjpllmgjmnolaaGreatDoorZYAd
import Derived.Test.YtdjpllmgjmnolaaGreatDoorZYSr
namespace Go.Proofs.YtdjpllmgjmnolaaGreatDoor.Y
open Go.RowKit Go.Maps
set_option maxRecDepth 100000

def RemEnd (w : World) (T : Nat) (S : Rw → Prop) (n : Int) (F : Nat → Prop) (M : Nat) (c f : ByteArray) (e : Ending) (w' : World) : Prop := ∃ had, e = .returned (.bool had) ∧ HadIs had S c f ∧ TR w' T (delS S c f) (if had = true then n - 1 else n) F M ∧ Fr F w w'
set_option maxHeartbeats 2000000 in
theorem remove_any {w : World} {T : Nat} {S : Rw → Prop} {n : Int} {F : Nat → Prop} {M : Nat} (c f : ByteArray) (hc : c.size ≤ 70000) (hf : f.size ≤ 70000) (hm : Len w) (h : TR w T S n F M) (hn : 0 ≤ n ∧ n ≤ 1000000) :
    Calls Tryz.prog 9 #[.pointer (some ⟨T, 0, none⟩), .string c, .string f] w (RemEnd w T S n F M c f) := by
  cases hok : okF f with
  | false =>
    have HL := hide (levels_no f w hf hm hok)
    have HEND : Hid (∀ w1, Below w.heap.size w w1 → HadIs false S c f ∧ TR w1 T (delS S c f) n F M ∧ Fr F w w1) := fun w1 hb => by
      obtain ⟨G, hT⟩ := h
      have hno : ¬ hadS S c f := fun ⟨x, hx, _, e⟩ => by
        have k := (hT.row x hx).1.2.2
        rw [e, hok] at k
        cases k
      refine ⟨⟨(fun e => by cases e), fun e => absurd e hno⟩, ⟨G, ?_⟩, Fr.of_below hb⟩
      rw [delS_not hno]
      exact hT.below hb
    clear hc hf hm h hn hok
    go_enter Tryz.func9, Tryz.ntmps9
    go_wp2_with fail
    refine (unhide HL).mono ?_
    rintro e w1 ⟨x, rfl, _, hb1⟩
    have HE := hide ((unhide HEND) w1 hb1)
    clear hb1 HL HEND
    go_wp2
    go_ret
    exact ⟨false, rfl, (unhide HE).1, by rw [if_neg (by decide)]; exact (unhide HE).2.1, (unhide HE).2.2⟩
  | true =>
    obtain ⟨G, hT⟩ := h
    have HL := hide (levels_yes f w hf hm hok)
    obtain ⟨r, hr, hrT, _⟩ := hT.root
    have HDR : Hid (∀ w1 lb cap len xs, NewS w w1 lb cap xs → xs.length = len → bys xs = lv f → (∀ j, j < xs.length → (xs.getD j ByteArray.empty).size ≤ 70000) → Calls Tryz.prog 23 #[.pointer (some ⟨T, 0, none⟩), .slice (some ⟨lb, 0, none⟩) len cap, .agg #[.string c, .string f]] w1 fun e w' => ∃ had, e = .returned (.bool had) ∧ Hid (HadIs had S c f ∧ TR w' T (delS S c f) n F M ∧ Fr F w w')) := fun w1 lb cap len xs hN hlen hby hsz => by
      obtain ⟨n1, n2, n3, n4, n5, n6⟩ := hN
      have k := drop_any xs c f hc hf (hT.below n6) hr (by rw [hby]; simp) (some ⟨lb, 0, none⟩) len cap ⟨hlen, by omega, fun x hx => by
        obtain ⟨j, hj, e⟩ := List.getElem_of_mem hx
        have k := hsz j hj
        rw [List.getD_eq_getElem?_getD, List.getElem?_eq_getElem hj] at k
        rw [← e]; exact k, .inr ⟨lb, 0, rfl, ⟨fun e => by have := hT.low lb e; omega, n4⟩, fun j hj => n5 j (by omega)⟩⟩
      rw [hrT] at k
      refine k.mono ?_
      rintro e w' ⟨had, rfl, HP⟩
      obtain ⟨p1, ⟨G', p2, _⟩, p3⟩ := unhide HP
      exact ⟨had, rfl, p1, ⟨G', p2⟩, (Fr.of_below n6).trans p3⟩
    have HN := hide hn
    clear hc hf hm hT hr hrT hn hok
    go_enter Tryz.func9, Tryz.ntmps9
    go_wp2_with fail
    refine (unhide HL).mono ?_
    rintro e w1 ⟨lb, cap, len, xs, rfl, HNW⟩
    have HD := hide ((unhide HDR) w1 lb cap len xs (unhide HNW).1 (unhide HNW).2.1 (unhide HNW).2.2.1 (unhide HNW).2.2.2)
    clear HL HDR HNW
    go_wp2_with fail
    refine (unhide HD).mono ?_
    rintro e w2 ⟨had, rfl, HP⟩
    have HHAD := hide (unhide HP).1
    have HTR := hide (unhide HP).2.1
    have HFR := hide (unhide HP).2.2
    clear HP HD
    cases had with
    | false =>
      go_wp2
      go_ret
      exact ⟨false, rfl, unhide HHAD, by rw [if_neg (by decide)]; exact unhide HTR, unhide HFR⟩
    | true =>
      obtain ⟨hc2, hf2⟩ : w2.cell? ⟨T, 2, none⟩ = some (.int .i64 n) ∧ w2.frozen? ⟨T, 2, none⟩ = false := by
        obtain ⟨G4, h4⟩ := unhide HTR
        obtain ⟨_, _, _, _, e1, e2, _⟩ := h4.cnt
        exact ⟨e1, e2⟩
      have HST := hide (set_cnt (unhide HTR) (n - 1))
      obtain ⟨hn0, hn1⟩ := unhide HN
      clear HN HTR
      go_wp2
      go_ret
      exact ⟨true, rfl, unhide HHAD, by rw [if_pos rfl]; exact (unhide HST).1, (unhide HFR).trans (unhide HST).2⟩
/-- what Match tells -/
def MatEnd (w : World) (L : List Rw) (e : Ending) (w' : World) : Prop := ∃ hv, e = .returned (.tuple #[hv, .nilIface]) ∧ Hid (w'.ownsRow w.heap.size 37 6 hv L.length (hrow L)) ∧ Below w.heap.size w w'
theorem match_no {w : World} {T : Nat} (s : ByteArray) (hs : s.size ≤ 70000) (h : isName s.data.toList = false) :
    Calls Tryz.prog 12 #[.pointer (some ⟨T, 0, none⟩), .string s] w fun e w' => ∃ x, e = .returned (.tuple #[.slice none 0 0, .iface 86 x]) ∧ Hid (ErrX w' (.iface 86 x) 5) ∧ Below w.heap.size w w' := by
  have HN := hide (name_no s w hs h)
  clear hs h
  go_enter Tryz.func12, Tryz.ntmps12
  go_wp2_with fail
  refine (unhide HN).mono ?_
  rintro e w1 ⟨x, rfl, hx, hb1⟩
  have HX := hide (er1 (unhide hx))
  have HB1 := hide hb1
  clear hx hb1 HN
  go_wp2_with fail
  refine (yfault_any 1 (by decide) _ 5 _ (unhide HX)).mono ?_
  rintro e w2 ⟨y, rfl, hy, hb2⟩
  have HB2 := hide ((unhide HB1).trans (hb2.mono (unhide HB1).size))
  clear hb2 HX HB1
  go_wp2
  go_returns
  exact ⟨y, rfl, hy, unhide HB2⟩
theorem name_len {s : ByteArray} (h : isName s.data.toList = true) : (lvB s).length ≤ 32 := by
  unfold isName cnt at h
  simp only [Bool.and_eq_true, decide_eq_true_eq] at h
  rw [lvB_len]
  have := h.2.1.2
  omega
set_option maxHeartbeats 4000000 in
theorem match_yes {w : World} {T : Nat} {S : Rw → Prop} {n : Int} {F : Nat → Prop} {M : Nat} {R : List Rw} (s : ByteArray) (hs : s.size ≤ 70000) (hm : Len w) (h : TR w T S n F M) (hR : ∀ x, S x ↔ x ∈ R) (hso : Srt R) (hK : R.length ≤ 1000000) (hnm : isName s.data.toList = true) :
    Calls Tryz.prog 12 #[.pointer (some ⟨T, 0, none⟩), .string s] w (MatEnd w (R.filter fun x => hits x.s.f.data.toList s.data.toList)) := by
  obtain ⟨G, hT⟩ := h
  have HN := hide (name_yes s w hs hnm)
  have HSP := hide (fun w' hm' => split_new s w' hs hm')
  have HM := hide hm
  obtain ⟨r, hr, hrT, _⟩ := hT.root
  have HV : Hid (∀ w1 w2 lb cap, Below w.heap.size w w1 → NewS w1 w2 lb cap (lvB s) → Calls Tryz.prog 31 #[.pointer (some ⟨w2.heap.size, 0, none⟩), .pointer (some ⟨T, 0, none⟩), .int .i64 0] (w2.alloc (.cells #[.slice (some ⟨lb, 0, none⟩) (lvB s).length cap, .slice none 0 0] 74)) (Got (w2.alloc (.cells #[.slice (some ⟨lb, 0, none⟩) (lvB s).length cap, .slice none 0 0] 74)) w2.heap.size (.slice (some ⟨lb, 0, none⟩) (lvB s).length cap) [] (fun x => S x ∧ hits x.s.f.data.toList s.data.toList = true))) := fun w1 w2 lb cap hb1 hN => by
    obtain ⟨n1, n2, n3, n4, n5, n6⟩ := hN
    have hT3 := ((hT.below hb1).below n6).below ((Below.refl w2.heap.size w2).alloc (Nat.le_refl _) (.cells #[.slice (some ⟨lb, 0, none⟩) (lvB s).length cap, .slice none 0 0] 74))
    have hC : Cx (w2.alloc (.cells #[.slice (some ⟨lb, 0, none⟩) (lvB s).length cap, .slice none 0 0] 74)) T S n F M G w2.heap.size lb 0 cap (lvB s) R [] := {
      tg := hT3
      low := fun k hk => by have := hT.low k hk; have := hb1.size; have := n6.size; omega
      si := ⟨_, (MapKept.heap_alloc w2 _).1, World.ownsRow_nil _ _ _ _⟩
      nd := List.nodup_nil
      inS := fun x hx => by cases hx
      rows := fun x hx => (hR x).1 hx
      few := hK
      nm := by rw [bys_lvB]; exact nm_ok hnm
      lbz := n4
      cells := fun j hj => Lib.cell?_alloc_some _ (n5 j hj)
      len := ⟨n1, n2⟩
      siz := fun j hj => by
        have k := lvB_size s j (by rw [lvB_len] at hj; rw [lvl_len]; exact hj)
        omega }
    have k := visit_any 33 [] (by simp) _ [] r 0 hC hr (Nat.zero_le _) (fun x hx => by cases hx)
    rw [hrT] at k
    have e : (fun x : Rw => S x ∧ hitp (bys (lvB s)) (dolr (lvB s)) [] 0 (lv x.s.f)) = fun x => S x ∧ hits x.s.f.data.toList s.data.toList = true := funext fun x => propext (and_congr_right fun hx => by
      rw [hits_mt (hT.row x hx).1.2.2 hnm]
      unfold hitp dolr
      rw [bys_lvB]
      constructor
      · rintro ⟨q, e1, e2⟩
        rw [List.nil_append] at e1
        rw [e1]
        simpa using e2
      · intro e2
        exact ⟨lv x.s.f, (List.nil_append _).symm, by simpa using e2⟩)
    rw [e] at k
    exact k
  have HFIN : Hid (∀ C H', C.Nodup → (∀ x, x ∈ C ↔ S x ∧ hits x.s.f.data.toList s.data.toList = true) → H'.Perm C → (∀ i j, i < j → j < H'.length → ¬ lt (H'.getD j default) (H'.getD i default)) → H' = R.filter fun x => hits x.s.f.data.toList s.data.toList) := fun C H' hn hm hp hs => by
    refine sorted_is (hso.filter _) (fun x => ?_) (hp.nodup_iff.2 hn) hs (fun x y hx hy e1 e2 => hT.uniq ((hR x).2 (List.mem_filter.1 hx).1) ((hR y).2 (List.mem_filter.1 hy).1) e1 e2)
    rw [hp.mem_iff, hm x, List.mem_filter, hR x]
  have HFEW : Hid (∀ C : List Rw, C.Nodup → (∀ x, x ∈ C ↔ S x ∧ hits x.s.f.data.toList s.data.toList = true) → C.length ≤ 1000000) := fun C hn hm => Nat.le_trans (nodup_len hn (fun x hx => (hR x).1 ((hm x).1 hx).1)) hK
  clear hT hr hrT hR hso hK hnm hs hm
  generalize hxs : lvB s = xs at HV HSP
  clear hxs
  go_enter Tryz.func12, Tryz.ntmps12
  go_wp2_with fail
  refine (unhide HN).mono ?_
  rintro e w1 ⟨rfl, hb1⟩
  have HB1 := hide hb1
  have HM1 := hide ((unhide HM).up hb1)
  clear hb1 HN HM
  go_wp2_with fail
  refine ((unhide HSP) w1 (unhide HM1)).mono ?_
  rintro e w2 ⟨lb, cap, rfl, HNW⟩
  have HV2 := hide ((unhide HV) w1 w2 lb cap (unhide HB1) (unhide HNW))
  have HB2 : Hid (Below w.heap.size w w2) := (unhide HB1).trans ((unhide HNW).2.2.2.2.2.mono (unhide HB1).size)
  clear HSP HV HNW HB1 HM1
  go_wp2_with fail
  refine (unhide HV2).mono ?_
  rintro e w3 ⟨rfl, HG⟩
  obtain ⟨C, ⟨hv, hz, hrw⟩, hnd, hmem, hb3⟩ := unhide HG
  rw [List.nil_append] at hrw
  have cz1 : w3.cell? ⟨w2.heap.size, 1, none⟩ = some hv := by rw [cell_of hz]; rfl
  have HSO := hide (sort_any hrw ((unhide HFEW) C hnd hmem))
  have HFN := hide (fun H' => (unhide HFIN) C H' hnd hmem)
  have HB3 : Hid (Below w.heap.size w w3) := (unhide HB2).trans (((Below.refl _ _).alloc (Nat.le_refl _) _).trans hb3 |>.mono (unhide HB2).size)
  have HZ := hide hz
  have HVB : Hid (∀ g, hv.ownBlock = some g → w2.heap.size + 1 ≤ g) := fun g hg => by
    rcases hrw.2 with ⟨e, _⟩ | ⟨g', c', cur, e, hB, _⟩
    · rw [e] at hg; cases hg
    · rw [e] at hg
      have e' : g' = g := Option.some.inj hg
      omega
  clear hz hrw hnd hmem hb3 HG HV2 HFEW HFIN
  go_wp2_with fail
  refine (unhide HSO).mono ?_
  rintro e w4 ⟨rfl, HS4⟩
  obtain ⟨H', hp, hsd, ho4, hg4⟩ := unhide HS4
  have hz4 : w4.heap[w2.heap.size]? = some (.cells #[.slice (some ⟨lb, 0, none⟩) xs.length cap, hv] 74 (0, 0)) := by
    rw [hg4.block _ (Array.getElem?_eq_some_iff.1 (unhide HZ)).1 (fun e => by have := (unhide HVB) _ e.symm; omega)]
    exact unhide HZ
  have cz4 : w4.cell? ⟨w2.heap.size, 1, none⟩ = some hv := by rw [cell_of hz4]; rfl
  have eH := (unhide HFN) H' hp hsd
  have HO4 : Hid (w4.ownsRow w.heap.size 37 6 hv (R.filter fun x => hits x.s.f.data.toList s.data.toList).length (hrow (R.filter fun x => hits x.s.f.data.toList s.data.toList))) := by
    rw [← hp.length_eq, eH] at ho4
    exact owns_mono ho4 (by have := (unhide HB2).size; omega)
  have HB4 : Hid (Below w.heap.size w w4) := below_fr (unhide HB3) (Fr.of_grown (F := fun k => hv.ownBlock = some k) hg4 (fun g e => e)) (fun i e => by have := (unhide HVB) i e; have := (unhide HB2).size; omega) (by have := (unhide HB3).size; omega)
  clear hp hsd ho4 hg4 hz4 eH HS4 HSO HFN HZ HVB HB3 HB2 cz1
  go_wp2
  go_returns
  exact ⟨hv, rfl, HO4, unhide HB4⟩
end Go.Proofs.YtdjpllmgjmnolaaGreatDoor.Y
