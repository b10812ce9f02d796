/- Proved here: contracts of the search's visit and follow: each gathers just those subscriptions that lie there and match. Helper contracts. -/
import Derived.Test.YtdjpllmgjmnolaaGreatDoorZYTk
namespace Go.Proofs.YtdjpllmgjmnolaaGreatDoor.Y
open Go.RowKit Go.Maps
set_option maxRecDepth 100000

/-- what a search stands on -/
structure Cx (w : World) (T : Nat) (S : Rw → Prop) (n : Int) (F : Nat → Prop) (M : Nat) (G : Gr) (Z lb off cap : Nat) (xs : List ByteArray) (R H : List Rw) : Prop where
  tg : TG w T S n F M G
  low : ∀ k, F k → k < Z
  si : SI w Z (.slice (some ⟨lb, off, none⟩) xs.length cap) H
  nd : H.Nodup
  inS : ∀ x ∈ H, S x
  rows : ∀ x, S x → x ∈ R
  few : R.length ≤ 1000000
  nm : NmOk (bys xs)
  lbz : lb < Z
  cells : ∀ j, j < xs.length → w.cell? ⟨lb, off + j, none⟩ = some (.string (xs.getD j ByteArray.empty))
  len : xs.length ≤ cap ∧ xs.length ≤ 70001
  siz : ∀ j, j < xs.length → (xs.getD j ByteArray.empty).size ≤ 70000
abbrev dolr (xs : List ByteArray) : Bool := Lib.hasPrefix ((bys xs).headD []) [36]
theorem Cx.next {w w' : World} {T : Nat} {S : Rw → Prop} {n : Int} {F : Nat → Prop} {M : Nat} {G : Gr} {Z lb off cap : Nat} {xs : List ByteArray} {R H C : List Rw} {P : Rw → Prop} (h : Cx w T S n F M G Z lb off cap xs R H) (hs : SI w' Z (.slice (some ⟨lb, off, none⟩) xs.length cap) (H ++ C)) (hn : C.Nodup) (hm : ∀ x, x ∈ C ↔ S x ∧ P x) (hf : ∀ x ∈ H, ¬ P x) (hb : Below Z w w') : Cx w' T S n F M G Z lb off cap xs R (H ++ C) where
  tg := h.tg.keep hb.size (fun k hk => hb.block k (h.low k hk))
  low := h.low
  si := hs
  nd := List.nodup_append.2 ⟨h.nd, hn, fun x hx y hy e => hf x hx (by rw [e]; exact ((hm y).1 hy).2)⟩
  inS := fun x hx => by
    rcases List.mem_append.1 hx with hx | hx
    · exact h.inS x hx
    · exact ((hm x).1 hx).1
  rows := h.rows
  few := h.few
  nm := h.nm
  lbz := h.lbz
  cells := fun j hj => by rw [hb.cell (p := ⟨lb, off + j, none⟩) h.lbz]; exact h.cells j hj
  len := h.len
  siz := h.siz
theorem Cx.nz {w : World} {T : Nat} {S : Rw → Prop} {n : Int} {F : Nat → Prop} {M : Nat} {G : Gr} {Z lb off cap : Nat} {xs : List ByteArray} {R H : List Rw} (h : Cx w T S n F M G Z lb off cap xs R H) : w.cell? ⟨Z, 0, none⟩ = some (.slice (some ⟨lb, off, none⟩) xs.length cap) ∧ 0 < xs.length := by
  obtain ⟨hv, h1, _⟩ := h.si
  refine ⟨by rw [cell_of h1]; rfl, ?_⟩
  rcases Nat.eq_zero_or_pos xs.length with e | e
  · exact absurd (by rw [List.length_eq_zero_iff.1 e]; rfl) h.nm.1
  · exact e
theorem Got.none {w : World} {Z : Nat} {nv : Value} {H : List Rw} {P : Rw → Prop} (h : SI w Z nv H) (hP : ∀ x, ¬ P x) : Got w Z nv H P (.returned (.tuple #[])) w := ⟨rfl, [], by rw [List.append_nil]; exact h, List.nodup_nil, fun x => ⟨(fun e => by cases e), fun e => absurd e (hP x)⟩, Below.refl _ _⟩
/-- what a call of visit promises at a node -/
def VisitAt (T : Nat) (S : Rw → Prop) (n : Int) (F : Nat → Prop) (M : Nat) (G : Gr) (Z lb off cap : Nat) (xs : List ByteArray) (R : List Rw) (p : Path) : Prop := ∀ (w : World) (H : List Rw) (a : Nod) (m : Nat), Cx w T S n F M G Z lb off cap xs R H → G p = some a → m ≤ xs.length → (∀ x ∈ H, ¬ hitp (bys xs) (dolr xs) p m (lv x.s.f)) →
  Calls Tryz.prog 31 #[.pointer (some ⟨Z, 0, none⟩), .pointer (some ⟨a.blk, 0, none⟩), .int .i64 m] w (Got w Z (.slice (some ⟨lb, off, none⟩) xs.length cap) H (fun x => S x ∧ hitp (bys xs) (dolr xs) p m (lv x.s.f)))
def FollowAt (T : Nat) (S : Rw → Prop) (n : Int) (F : Nat → Prop) (M : Nat) (G : Gr) (Z lb off cap : Nat) (xs : List ByteArray) (R : List Rw) (p : Path) (l : ByteArray) : Prop := ∀ (w : World) (H : List Rw) (a : Nod) (m : Nat), Cx w T S n F M G Z lb off cap xs R H → G p = some a → m ≤ xs.length → (l ≠ ⟨#[35]⟩ → m < xs.length) → (∀ x ∈ H, ¬ folp (bys xs) (dolr xs) p l.data.toList m (lv x.s.f)) →
  Calls Tryz.prog 50 #[.pointer (some ⟨Z, 0, none⟩), .pointer (some ⟨a.blk, 0, none⟩), .string l, .int .i64 m] w (Got w Z (.slice (some ⟨lb, off, none⟩) xs.length cap) H (fun x => S x ∧ folp (bys xs) (dolr xs) p l.data.toList m (lv x.s.f)))
set_option maxHeartbeats 4000000 in
theorem follow_lvl {T : Nat} {S : Rw → Prop} {n : Int} {F : Nat → Prop} {M : Nat} {G : Gr} {Z lb off cap : Nat} {xs : List ByteArray} {R : List Rw} {p : Path} (l : ByteArray) (hs : l.size ≤ 70000) (h1 : (l.toList == [35]) = false) (h2 : (l.toList == [43]) = false) (hV : VisitAt T S n F M G Z lb off cap xs R (p ++ [l.data.toList])) : FollowAt T S n F M G Z lb off cap xs R p l := by
  intro w H a m hC hp hm hml hfr
  obtain ⟨c0, _, _, _, _⟩ := hC.tg.nod hp
  obtain ⟨D, hD, hD2⟩ := hC.tg.bel p a hp
  have hrun := hD.kid (s := l) (by unfold maxLen; omega) (hD2 l.data.toList).2
  obtain ⟨cz, hlen0⟩ := hC.nz
  have cx0 := hC.cells 0 hlen0
  rw [Nat.add_zero] at cx0
  have HSI := hide hC.si
  have HNO : Hid (kids G p l.data.toList = none → ∀ x, ¬ (S x ∧ folp (bys xs) (dolr xs) p l.data.toList m (lv x.s.f))) := fun hk x hx => by
    obtain ⟨r, e⟩ := fol_pre hx.2
    obtain ⟨b, hb⟩ := hC.tg.pre _ _ r rfl (by rw [← e]; exact (hC.tg.row x hx.1).2)
    unfold kids at hk
    rw [hb] at hk
    cases hk
  cases ho : kids G p l.data.toList with
  | none =>
    have HG : Hid (Got w Z (.slice (some ⟨lb, off, none⟩) xs.length cap) H (fun x => S x ∧ folp (bys xs) (dolr xs) p l.data.toList m (lv x.s.f)) (.returned (.tuple #[])) w) := Got.none (unhide HSI) ((unhide HNO) ho)
    rw [ho] at hrun
    simp only [kidV, Option.map_none] at hrun
    clear hC hp hm hml hfr hD hD2 HNO HSI hV
    generalize (fun x => S x ∧ folp (bys xs) (dolr xs) p l.data.toList m (lv x.s.f)) = PP at HG ⊢
    generalize a.blk = d at c0 ⊢
    generalize a.bm = mb at c0 hrun
    go_enter Tryz.func50, Tryz.ntmps50
    go_wp2
    go_end0
    exact unhide HG
  | some kb =>
    obtain ⟨k, hk, hkb⟩ : ∃ k, G (p ++ [l.data.toList]) = some k ∧ k.blk = kb := by unfold kids at ho; simpa using ho
    rw [ho] at hrun
    simp only [kidV, Option.map_some] at hrun
    have HVV : Hid (True → Calls Tryz.prog 31 #[.pointer (some ⟨Z, 0, none⟩), .pointer (some ⟨kb, 0, none⟩), .int .i64 (m + 1 : Nat)] w (Got w Z (.slice (some ⟨lb, off, none⟩) xs.length cap) H (fun x => S x ∧ folp (bys xs) (dolr xs) p l.data.toList m (lv x.s.f)))) := fun hb => by
      have hb' : blk (dolr xs) l.data.toList m = false := by unfold blk; simp [isnt_of h1, isnt_of h2]
      have e : ∀ x : Rw, folp (bys xs) (dolr xs) p l.data.toList m (lv x.s.f) ↔ hitp (bys xs) (dolr xs) (p ++ [l.data.toList]) (m + 1) (lv x.s.f) := fun x => by
        unfold folp
        rw [hb']
        simp only [true_and]
        unfold nowm; rw [if_neg (isnt_of h1)]
      have k1 := hV w H k (m + 1) hC hk (by have := hml (fun e => by rw [e] at h1; exact isnt_of h1 rfl); omega) (fun x hx h1 => hfr x hx ((e x).2 h1))
      rw [hkb] at k1
      have e2 : (fun x : Rw => S x ∧ folp (bys xs) (dolr xs) p l.data.toList m (lv x.s.f)) = fun x => S x ∧ hitp (bys xs) (dolr xs) (p ++ [l.data.toList]) (m + 1) (lv x.s.f) := funext fun x => propext (and_congr_right fun _ => e x)
      rw [e2]
      exact k1
    have HV2 := hide ((unhide HVV) trivial)
    have hm1 : (m : Int) + 1 ≤ 70002 := by have := hC.len.2; omega
    clear hC hp hm hml hfr hD hD2 HNO HSI hV hk hkb HVV ho hs
    generalize (fun x => S x ∧ folp (bys xs) (dolr xs) p l.data.toList m (lv x.s.f)) = PP at HV2 ⊢
    generalize a.blk = d at c0 ⊢
    generalize a.bm = mb at c0 hrun
    have hcast : ((m + 1 : Nat) : Int) = (m : Int) + 1 := by omega
    rw [hcast] at HV2
    clear hcast
    go_enter Tryz.func50, Tryz.ntmps50
    go_wp2_with (go_at_call 31; refine (unhide HV2).mono ?_; rintro e w2 ⟨rfl, HG⟩)
    go_end0
    exact ⟨rfl, HG⟩
set_option maxHeartbeats 4000000 in
theorem follow_hash {T : Nat} {S : Rw → Prop} {n : Int} {F : Nat → Prop} {M : Nat} {G : Gr} {Z lb off cap : Nat} {xs : List ByteArray} {R : List Rw} {p : Path} (hV : VisitAt T S n F M G Z lb off cap xs R (p ++ [[35]])) : FollowAt T S n F M G Z lb off cap xs R p ⟨#[35]⟩ := by
  intro w H a m hC hp hm hml hfr
  obtain ⟨c0, _, _, _, _⟩ := hC.tg.nod hp
  obtain ⟨D, hD, hD2⟩ := hC.tg.bel p a hp
  have hrun := hD.kid (s := ⟨#[35]⟩) (by unfold maxLen; decide) (hD2 [35]).2
  obtain ⟨cz, hlen0⟩ := hC.nz
  have cx0 := hC.cells 0 hlen0
  rw [Nat.add_zero] at cx0
  have HSI := hide hC.si
  have HNO : Hid (kids G p [35] = none → ∀ x, ¬ (S x ∧ folp (bys xs) (dolr xs) p [35] m (lv x.s.f))) := fun hk x hx => by
    obtain ⟨r, e⟩ := fol_pre hx.2
    obtain ⟨b, hb⟩ := hC.tg.pre _ _ r rfl (by rw [← e]; exact (hC.tg.row x hx.1).2)
    unfold kids at hk
    rw [hb] at hk
    cases hk
  cases ho : kids G p [35] with
  | none =>
    have HG : Hid (Got w Z (.slice (some ⟨lb, off, none⟩) xs.length cap) H (fun x => S x ∧ folp (bys xs) (dolr xs) p [35] m (lv x.s.f)) (.returned (.tuple #[])) w) := Got.none (unhide HSI) ((unhide HNO) ho)
    rw [ho] at hrun
    simp only [kidV, Option.map_none] at hrun
    clear hC hp hm hml hfr hD hD2 HNO HSI hV
    generalize (fun x => S x ∧ folp (bys xs) (dolr xs) p [35] m (lv x.s.f)) = PP at HG ⊢
    generalize a.blk = d at c0 ⊢
    generalize a.bm = mb at c0 hrun
    go_enter Tryz.func50, Tryz.ntmps50
    go_wp2
    go_end0
    exact unhide HG
  | some kb =>
    obtain ⟨k, hk, hkb⟩ : ∃ k, G (p ++ [[35]]) = some k ∧ k.blk = kb := by unfold kids at ho; simpa using ho
    rw [ho] at hrun
    simp only [kidV, Option.map_some] at hrun
    have HVV : Hid ((decide (m = 0) && dolr xs) = false → Calls Tryz.prog 31 #[.pointer (some ⟨Z, 0, none⟩), .pointer (some ⟨kb, 0, none⟩), .int .i64 xs.length] w (Got w Z (.slice (some ⟨lb, off, none⟩) xs.length cap) H (fun x => S x ∧ folp (bys xs) (dolr xs) p [35] m (lv x.s.f)))) := fun hb => by
      have hb' : blk (dolr xs) [35] m = false := by unfold blk; rw [hb]; rfl
      have e : ∀ x : Rw, folp (bys xs) (dolr xs) p [35] m (lv x.s.f) ↔ hitp (bys xs) (dolr xs) (p ++ [[35]]) (xs.length) (lv x.s.f) := fun x => by
        unfold folp
        rw [hb']
        simp only [true_and]
        unfold nowm; rw [if_pos rfl, bys_len]
      have k1 := hV w H k (xs.length) hC hk (by omega) (fun x hx h1 => hfr x hx ((e x).2 h1))
      rw [hkb] at k1
      have e2 : (fun x : Rw => S x ∧ folp (bys xs) (dolr xs) p [35] m (lv x.s.f)) = fun x => S x ∧ hitp (bys xs) (dolr xs) (p ++ [[35]]) (xs.length) (lv x.s.f) := funext fun x => propext (and_congr_right fun _ => e x)
      rw [e2]
      exact k1
    have HBK : Hid ((decide (m = 0) && dolr xs) = true → Got w Z (.slice (some ⟨lb, off, none⟩) xs.length cap) H (fun x => S x ∧ folp (bys xs) (dolr xs) p [35] m (lv x.s.f)) (.returned (.tuple #[])) w) := fun hb => Got.none hC.si (fun x hx => by
      have := hx.2.1
      unfold blk at this
      rw [hb] at this
      simp at this)
    have hm1 : (m : Int) + 1 ≤ 70002 := by have := hC.len.2; omega
    have hdl : dolr xs = Lib.hasPrefix (xs.getD 0 ByteArray.empty).data.toList [36] := by unfold dolr; rw [headD_getD, bys_get]
    generalize hx0 : xs.getD 0 ByteArray.empty = x0 at cx0 hdl
    have HPF := hide (fun W => Tryz.strings_HasPrefix x0 (bt [36]) W)
    have hlx : xs.length ≤ 70001 := hC.len.2
    have hlc : xs.length ≤ cap := hC.len.1
    clear hC hp hm hml hfr hD hD2 HNO HSI hV hk hkb ho hx0
    generalize (fun x => S x ∧ folp (bys xs) (dolr xs) p [35] m (lv x.s.f)) = PP at HVV HBK ⊢
    generalize dolr xs = dl at hdl HVV HBK
    generalize xs.length = len at cz hlen0 HVV HBK hlx hlc ⊢
    generalize a.blk = d at c0 ⊢
    generalize a.bm = mb at c0 hrun
    have hPF : Hid (∀ W, Calls Tryz.prog 62 #[.string x0, .string ⟨#[36]⟩] W fun e w' => e = .returned (.bool dl) ∧ w' = W) := fun W => by rw [hdl]; exact (unhide HPF) W
    clear HPF hdl
    by_cases hm0 : m = 0
    · subst hm0
      cases dl with
      | true =>
        have HG := hide ((unhide HBK) (by rfl))
        clear HVV HBK
        go_enter Tryz.func50, Tryz.ntmps50
        go_wp2_with (go_at_call 62; refine ((unhide hPF) _).mono ?_; rintro e w2 ⟨rfl, hw⟩; obtain rfl := hw.symm; clear hw)
        go_end0
        exact unhide HG
      | false =>
        have HV2 := hide ((unhide HVV) (by rfl))
        clear HVV HBK
        go_enter Tryz.func50, Tryz.ntmps50
        go_wp2_with (first | (go_at_call 62; refine ((unhide hPF) _).mono ?_; rintro e w2 ⟨rfl, hw⟩; obtain rfl := hw.symm; clear hw) | (go_at_call 31; refine (unhide HV2).mono ?_; rintro e w2 ⟨rfl, HG⟩))
        go_end0
        exact ⟨rfl, HG⟩
    · have hm2 : ((m : Int) == 0) = false := beq_eq_false_iff_ne.2 (by omega)
      have HV2 := hide ((unhide HVV) (by simp [hm0]))
      clear HVV HBK hPF hm0
      go_enter Tryz.func50, Tryz.ntmps50
      go_wp2_with (go_at_call 31; refine (unhide HV2).mono ?_; rintro e w2 ⟨rfl, HG⟩)
      go_end0
      exact ⟨rfl, HG⟩
set_option maxHeartbeats 4000000 in
theorem follow_plus {T : Nat} {S : Rw → Prop} {n : Int} {F : Nat → Prop} {M : Nat} {G : Gr} {Z lb off cap : Nat} {xs : List ByteArray} {R : List Rw} {p : Path} (hV : VisitAt T S n F M G Z lb off cap xs R (p ++ [[43]])) : FollowAt T S n F M G Z lb off cap xs R p ⟨#[43]⟩ := by
  intro w H a m hC hp hm hml hfr
  obtain ⟨c0, _, _, _, _⟩ := hC.tg.nod hp
  obtain ⟨D, hD, hD2⟩ := hC.tg.bel p a hp
  have hrun := hD.kid (s := ⟨#[43]⟩) (by unfold maxLen; decide) (hD2 [43]).2
  obtain ⟨cz, hlen0⟩ := hC.nz
  have cx0 := hC.cells 0 hlen0
  rw [Nat.add_zero] at cx0
  have HSI := hide hC.si
  have HNO : Hid (kids G p [43] = none → ∀ x, ¬ (S x ∧ folp (bys xs) (dolr xs) p [43] m (lv x.s.f))) := fun hk x hx => by
    obtain ⟨r, e⟩ := fol_pre hx.2
    obtain ⟨b, hb⟩ := hC.tg.pre _ _ r rfl (by rw [← e]; exact (hC.tg.row x hx.1).2)
    unfold kids at hk
    rw [hb] at hk
    cases hk
  cases ho : kids G p [43] with
  | none =>
    have HG : Hid (Got w Z (.slice (some ⟨lb, off, none⟩) xs.length cap) H (fun x => S x ∧ folp (bys xs) (dolr xs) p [43] m (lv x.s.f)) (.returned (.tuple #[])) w) := Got.none (unhide HSI) ((unhide HNO) ho)
    rw [ho] at hrun
    simp only [kidV, Option.map_none] at hrun
    clear hC hp hm hml hfr hD hD2 HNO HSI hV
    generalize (fun x => S x ∧ folp (bys xs) (dolr xs) p [43] m (lv x.s.f)) = PP at HG ⊢
    generalize a.blk = d at c0 ⊢
    generalize a.bm = mb at c0 hrun
    go_enter Tryz.func50, Tryz.ntmps50
    go_wp2
    go_end0
    exact unhide HG
  | some kb =>
    obtain ⟨k, hk, hkb⟩ : ∃ k, G (p ++ [[43]]) = some k ∧ k.blk = kb := by unfold kids at ho; simpa using ho
    rw [ho] at hrun
    simp only [kidV, Option.map_some] at hrun
    have HVV : Hid ((decide (m = 0) && dolr xs) = false → Calls Tryz.prog 31 #[.pointer (some ⟨Z, 0, none⟩), .pointer (some ⟨kb, 0, none⟩), .int .i64 ((m : Int) + 1)] w (Got w Z (.slice (some ⟨lb, off, none⟩) xs.length cap) H (fun x => S x ∧ folp (bys xs) (dolr xs) p [43] m (lv x.s.f)))) := fun hb => by
      have hb' : blk (dolr xs) [43] m = false := by unfold blk; rw [hb]; rfl
      have e : ∀ x : Rw, folp (bys xs) (dolr xs) p [43] m (lv x.s.f) ↔ hitp (bys xs) (dolr xs) (p ++ [[43]]) (m + 1) (lv x.s.f) := fun x => by
        unfold folp
        rw [hb']
        simp only [true_and]
        unfold nowm; rw [if_neg (by decide)]
      have k1 := hV w H k (m + 1) hC hk (by have := hml (by intro e; cases e); omega) (fun x hx h1 => hfr x hx ((e x).2 h1))
      rw [hkb] at k1
      have e2 : (fun x : Rw => S x ∧ folp (bys xs) (dolr xs) p [43] m (lv x.s.f)) = fun x => S x ∧ hitp (bys xs) (dolr xs) (p ++ [[43]]) (m + 1) (lv x.s.f) := funext fun x => propext (and_congr_right fun _ => e x)
      rw [e2]
      have hcast : ((m + 1 : Nat) : Int) = (m : Int) + 1 := by omega
      rw [hcast] at k1
      exact k1
    have HBK : Hid ((decide (m = 0) && dolr xs) = true → Got w Z (.slice (some ⟨lb, off, none⟩) xs.length cap) H (fun x => S x ∧ folp (bys xs) (dolr xs) p [43] m (lv x.s.f)) (.returned (.tuple #[])) w) := fun hb => Got.none hC.si (fun x hx => by
      have := hx.2.1
      unfold blk at this
      rw [hb] at this
      simp at this)
    have hm1 : (m : Int) + 1 ≤ 70002 := by have := hC.len.2; omega
    have hdl : dolr xs = Lib.hasPrefix (xs.getD 0 ByteArray.empty).data.toList [36] := by unfold dolr; rw [headD_getD, bys_get]
    generalize hx0 : xs.getD 0 ByteArray.empty = x0 at cx0 hdl
    have HPF := hide (fun W => Tryz.strings_HasPrefix x0 (bt [36]) W)
    have hlx : xs.length ≤ 70001 := hC.len.2
    have hlc : xs.length ≤ cap := hC.len.1
    clear hC hp hm hml hfr hD hD2 HNO HSI hV hk hkb ho hx0
    generalize (fun x => S x ∧ folp (bys xs) (dolr xs) p [43] m (lv x.s.f)) = PP at HVV HBK ⊢
    generalize dolr xs = dl at hdl HVV HBK
    generalize xs.length = len at cz hlen0 HVV HBK hlx hlc ⊢
    generalize a.blk = d at c0 ⊢
    generalize a.bm = mb at c0 hrun
    have hPF : Hid (∀ W, Calls Tryz.prog 62 #[.string x0, .string ⟨#[36]⟩] W fun e w' => e = .returned (.bool dl) ∧ w' = W) := fun W => by rw [hdl]; exact (unhide HPF) W
    clear HPF hdl
    by_cases hm0 : m = 0
    · subst hm0
      cases dl with
      | true =>
        have HG := hide ((unhide HBK) (by rfl))
        clear HVV HBK
        go_enter Tryz.func50, Tryz.ntmps50
        go_wp2_with (go_at_call 62; refine ((unhide hPF) _).mono ?_; rintro e w2 ⟨rfl, hw⟩; obtain rfl := hw.symm; clear hw)
        go_end0
        exact unhide HG
      | false =>
        have HV2 := hide ((unhide HVV) (by rfl))
        clear HVV HBK
        go_enter Tryz.func50, Tryz.ntmps50
        go_wp2_with (first | (go_at_call 62; refine ((unhide hPF) _).mono ?_; rintro e w2 ⟨rfl, hw⟩; obtain rfl := hw.symm; clear hw) | (go_at_call 31; refine (unhide HV2).mono ?_; rintro e w2 ⟨rfl, HG⟩))
        go_end0
        exact ⟨rfl, HG⟩
    · have hm2 : ((m : Int) == 0) = false := beq_eq_false_iff_ne.2 (by omega)
      have HV2 := hide ((unhide HVV) (by simp [hm0]))
      clear HVV HBK hPF hm0
      go_enter Tryz.func50, Tryz.ntmps50
      go_wp2_with (go_at_call 31; refine (unhide HV2).mono ?_; rintro e w2 ⟨rfl, HG⟩)
      go_end0
      exact ⟨rfl, HG⟩
theorem lvl_ne35 {xs : List ByteArray} (h : NmOk (bys xs)) (m : Nat) (hm : m < xs.length) : ((xs.getD m ByteArray.empty).toList == [35]) = false ∧ ((xs.getD m ByteArray.empty).toList == [43]) = false := by
  have k := h.2 _ (mem_getD (bys xs) m (by rw [bys_len]; exact hm))
  rw [bys_get] at k
  exact ⟨of_isnt k.1, of_isnt k.2⟩
set_option maxHeartbeats 4000000 in
theorem visit_any : ∀ (k : Nat) {T : Nat} {S : Rw → Prop} {n : Int} {F : Nat → Prop} {M : Nat} {G : Gr} {Z lb off cap : Nat} {xs : List ByteArray} {R : List Rw} (p : Path), 33 ≤ p.length + k → VisitAt T S n F M G Z lb off cap xs R p
  | 0, T, S, n, F, M, G, Z, lb, off, cap, xs, R, p, hk => by
    intro w H a m hC hp
    have := hC.tg.dep p a hp
    omega
  | k + 1, T, S, n, F, M, G, Z, lb, off, cap, xs, R, p, hk => by
    have hV : ∀ l, VisitAt T S n F M G Z lb off cap xs R (p ++ [l]) := fun l => visit_any k (p ++ [l]) (by simp; omega)
    intro w H a m hC hp hm hfr
    have HV := hide hV
    have HC := hide hC
    have HP := hide hp
    have HFR := hide hfr
    have hnm := hC.nm
    have HNM := hide hnm
    have hlx := hC.len.2
    by_cases he : m = xs.length
    · have heq : ((m : Int) == (xs.length : Int)) = true := by rw [he]; simp
      have hml : m = (bys xs).length := by rw [bys_len]; exact he
      have HTK := hide (take_any hC.tg hp hC.low hC.si hC.nd (fun x hx => ⟨hC.inS x hx, fun e => hfr x hx ((hit_end hnm hml).2 (.inl e))⟩) hC.rows hC.few)
      have HME := hide hml
      have HM := hide hm
      obtain ⟨cz, _⟩ := hC.nz
      clear hC hp hfr hV hml he hnm hm
      go_enter Tryz.func31, Tryz.ntmps31
      go_wp2_with fail
      refine (unhide HTK).mono ?_
      rintro e w1 ⟨rfl, HG1⟩
      obtain ⟨C1, hs1, hn1, hm1, hb1⟩ := unhide HG1
      have hC1 := (unhide HC).next (P := fun x => lv x.s.f = p) hs1 hn1 hm1 (fun x hx e => (unhide HFR) x hx ((hit_end (unhide HNM) (unhide HME)).2 (.inl e))) hb1
      have HF := hide (follow_hash ((unhide HV) [35]) w1 (H ++ C1) a m hC1 (unhide HP) (unhide HM) (fun e => absurd rfl e) (fun x hx => by
        rcases List.mem_append.1 hx with hx | hx
        · exact fun e => (unhide HFR) x hx ((hit_end (unhide HNM) (unhide HME)).2 (.inr e))
        · rw [((hm1 x).1 hx).2]; exact fol_self))
      have HA : Hid (C1.Nodup ∧ (∀ x, x ∈ C1 ↔ S x ∧ lv x.s.f = p) ∧ Below Z w w1) := ⟨hn1, hm1, hb1⟩
      have HC1 := hide hC1
      clear hs1 hn1 hm1 hb1 hC1 HG1 HTK cz heq
      go_wp2_with fail
      refine (unhide HF).mono ?_
      rintro e w2 ⟨rfl, HG2⟩
      have HR : Hid (∃ C, SI w2 Z (.slice (some ⟨lb, off, none⟩) xs.length cap) (H ++ C) ∧ C.Nodup ∧ (∀ x, x ∈ C ↔ S x ∧ hitp (bys xs) (dolr xs) p m (lv x.s.f)) ∧ Below Z w w2) := by
        obtain ⟨C2, hs2, hn2, hm2, hb2⟩ := unhide HG2
        obtain ⟨_, hm1, hb1⟩ := unhide HA
        have hC2 := (unhide HC1).next hs2 hn2 hm2 (fun x hx => by
          rcases List.mem_append.1 hx with hx | hx
          · exact fun e => (unhide HFR) x hx ((hit_end (unhide HNM) (unhide HME)).2 (.inr e))
          · rw [((hm1 x).1 hx).2]; exact fol_self) hb2
        have hnd := hC2.nd
        rw [List.append_assoc] at hs2 hnd
        refine ⟨C1 ++ C2, hs2, (List.nodup_append.1 hnd).2.1, fun x => ?_, ⟨hb2.os.trans hb1.os, hb2.tape.trans hb1.tape, hb2.output.trans hb1.output, Nat.le_trans hb1.size hb2.size, fun i hi => (hb2.block i hi).trans (hb1.block i hi)⟩⟩
        rw [List.mem_append, hm1, hm2, hit_end (unhide HNM) (unhide HME)]
        constructor
        · rintro (⟨h1, h2⟩ | ⟨h1, h2⟩)
          · exact ⟨h1, .inl h2⟩
          · exact ⟨h1, .inr h2⟩
        · rintro ⟨h1, h2 | h2⟩
          · exact .inl ⟨h1, h2⟩
          · exact .inr ⟨h1, h2⟩
      clear HG2 HA HF HC1 HC HFR HNM HME HV HP
      go_wp2
      go_end0
      exact ⟨rfl, HR⟩
    · have hlt : m < xs.length := by omega
      have heq : ((m : Int) == (xs.length : Int)) = false := beq_eq_false_iff_ne.2 (by omega)
      have hml : m < (bys xs).length := by rw [bys_len]; exact hlt
      obtain ⟨q1, q2⟩ := lvl_ne35 hnm m hlt
      have hgm : (bys xs).getD m [] = (xs.getD m ByteArray.empty).data.toList := bys_get xs m
      have hne := hnm.2 _ (mem_getD (bys xs) m hml)
      have hmid : ∀ q, hitp (bys xs) (dolr xs) p m q ↔ (folp (bys xs) (dolr xs) p (xs.getD m ByteArray.empty).data.toList m q ∨ folp (bys xs) (dolr xs) p [43] m q ∨ folp (bys xs) (dolr xs) p [35] m q) := fun q => by rw [← hgm]; exact hit_mid hnm hml
      rw [hgm] at hne
      have cxm := hC.cells m hlt
      have hsz := hC.siz m hlt
      generalize xs.getD m ByteArray.empty = xm at q1 q2 hne hmid cxm hsz
      have HMID := hide hmid
      have HNE := hide hne
      have HF1 := hide (follow_lvl xm hsz q1 q2 (hV _) w H a m hC hp hm (fun _ => hlt) (fun x hx e => hfr x hx ((hmid _).2 (.inl e))))
      have HF2 := hide (fun w' H' hC' hfr' => follow_plus (hV [43]) w' H' a m hC' hp hm (fun _ => hlt) hfr')
      have HF3 := hide (fun w' H' hC' hfr' => follow_hash (hV [35]) w' H' a m hC' hp hm (fun _ => hlt) hfr')
      obtain ⟨cz, hl0⟩ := hC.nz
      have hlc := hC.len.1
      clear hC hp hfr hV hml hnm hm hmid hne hgm q1 q2 hsz he HNM
      go_enter Tryz.func31, Tryz.ntmps31
      go_wp2_with fail
      refine (unhide HF1).mono ?_
      rintro e w1 ⟨rfl, HG1⟩
      obtain ⟨C1, hs1, hn1, hm1, hb1⟩ := unhide HG1
      have hC1 := (unhide HC).next hs1 hn1 hm1 (fun x hx e => (unhide HFR) x hx (((unhide HMID) _).2 (.inl e))) hb1
      have hf1 : ∀ x ∈ H ++ C1, ¬ folp (bys xs) (dolr xs) p [43] m (lv x.s.f) := fun x hx => by
        rcases List.mem_append.1 hx with hx | hx
        · exact fun e => (unhide HFR) x hx (((unhide HMID) _).2 (.inr (.inl e)))
        · exact fun e => (unhide HNE).2 (fol_ne ((hm1 x).1 hx).2 e)
      have HG := hide ((unhide HF2) w1 (H ++ C1) hC1 hf1)
      have HA : Hid (C1.Nodup ∧ (∀ x, x ∈ C1 ↔ S x ∧ folp (bys xs) (dolr xs) p xm.data.toList m (lv x.s.f)) ∧ Below Z w w1) := ⟨hn1, hm1, hb1⟩
      have HC1 := hide hC1
      have HNF1 := hide hf1
      clear hs1 hn1 hm1 hb1 hC1 hf1 HG1 HF1 HF2 cz heq cxm
      go_wp2_with fail
      refine (unhide HG).mono ?_
      rintro e w2 ⟨rfl, HG2⟩
      obtain ⟨C2, hs2, hn2, hm2, hb2⟩ := unhide HG2
      have hC2 := (unhide HC1).next hs2 hn2 hm2 (unhide HNF1) hb2
      have hf2 : ∀ x ∈ H ++ C1 ++ C2, ¬ folp (bys xs) (dolr xs) p [35] m (lv x.s.f) := fun x hx => by
        rcases List.mem_append.1 hx with hx | hx
        · rcases List.mem_append.1 hx with hx | hx
          · exact fun e => (unhide HFR) x hx (((unhide HMID) _).2 (.inr (.inr e)))
          · exact fun e => (unhide HNE).1 (fol_ne (((unhide HA).2.1 x).1 hx).2 e)
        · exact fun e => absurd (fol_ne ((hm2 x).1 hx).2 e) (by decide)
      have HH := hide ((unhide HF3) w2 (H ++ C1 ++ C2) hC2 hf2)
      have HB : Hid (C2.Nodup ∧ (∀ x, x ∈ C2 ↔ S x ∧ folp (bys xs) (dolr xs) p [43] m (lv x.s.f)) ∧ Below Z w1 w2) := ⟨hn2, hm2, hb2⟩
      have HC2 := hide hC2
      have HNF2 := hide hf2
      clear hs2 hn2 hm2 hb2 hC2 hf2 HG2 HG HF3
      go_wp2_with fail
      refine (unhide HH).mono ?_
      rintro e w3 ⟨rfl, HG3⟩
      have HR : Hid (∃ C, SI w3 Z (.slice (some ⟨lb, off, none⟩) xs.length cap) (H ++ C) ∧ C.Nodup ∧ (∀ x, x ∈ C ↔ S x ∧ hitp (bys xs) (dolr xs) p m (lv x.s.f)) ∧ Below Z w w3) := by
        obtain ⟨C3, hs3, hn3, hm3, hb3⟩ := unhide HG3
        obtain ⟨_, hm1, hb1⟩ := unhide HA
        obtain ⟨_, hm2, hb2⟩ := unhide HB
        have hnd := ((unhide HC2).next hs3 hn3 hm3 (unhide HNF2) hb3).nd
        rw [List.append_assoc, List.append_assoc] at hs3 hnd
        refine ⟨C1 ++ (C2 ++ C3), hs3, (List.nodup_append.1 hnd).2.1, fun x => ?_, ⟨hb3.os.trans (hb2.os.trans hb1.os), hb3.tape.trans (hb2.tape.trans hb1.tape), hb3.output.trans (hb2.output.trans hb1.output), Nat.le_trans hb1.size (Nat.le_trans hb2.size hb3.size), fun i hi => (hb3.block i hi).trans ((hb2.block i hi).trans (hb1.block i hi))⟩⟩
        rw [List.mem_append, List.mem_append, hm1, hm2, hm3, (unhide HMID)]
        constructor
        · rintro (⟨h1, h2⟩ | ⟨h1, h2⟩ | ⟨h1, h2⟩)
          · exact ⟨h1, .inl h2⟩
          · exact ⟨h1, .inr (.inl h2)⟩
          · exact ⟨h1, .inr (.inr h2)⟩
        · rintro ⟨h1, h2 | h2 | h2⟩
          · exact .inl ⟨h1, h2⟩
          · exact .inr (.inl ⟨h1, h2⟩)
          · exact .inr (.inr ⟨h1, h2⟩)
      clear HG3 HA HB HH HC1 HC2 HC HFR HMID HNE HV HP HNF1 HNF2
      go_wp2
      go_end0
      exact ⟨rfl, HR⟩
end Go.Proofs.YtdjpllmgjmnolaaGreatDoor.Y
