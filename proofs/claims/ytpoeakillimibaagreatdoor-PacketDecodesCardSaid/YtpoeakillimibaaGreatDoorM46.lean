/- Proved here: helpers, one text behind the other. -/
import Derived.Test.YtpoeakillimibaaGreatDoorZKEqPk
import Derived.Test.YtpoeakillimibaaGreatDoorM39
import Derived.Test.YtpoeakillimibaaGreatDoorM44
import Derived.Test.YtpoeakillimibaaGreatDoorM14
import Derived.Test.YtpoeakillimibaaGreatDoorZTCopy
import Derived.Handy
import Derived.Test.YtpoeakillimibaaGreatDoorM45
import Derived.Deep.CutRange
/- Proved here: a packet with rows of its own reads as what it means; what Decode tells, and what the page's tells, in one. Helpers. -/
namespace Go.Proofs.YtpoeakillimibaaGreatDoor.K
open Go.RowKit
set_option maxRecDepth 100000

theorem scs_get (d : List Sb) : ∀ (i : Nat) (u : Sb), d[i]? = some u → ∀ j, j < 5 → (scs d)[i * 5 + j]? = u.cells[j]? := by
  induction d with
  | nil => intro i u h; simp at h
  | cons v us ih =>
    intro i u h j hj
    cases i with
    | zero =>
      simp at h
      subst h
      unfold scs
      rw [List.flatMap_cons, Nat.zero_mul, Nat.zero_add, List.getElem?_append_left (by simp [Sb.cells]; omega)]
    | succ i =>
      simp at h
      have := ih i u h j hj
      unfold scs at *
      rw [List.flatMap_cons, List.getElem?_append_right (by simp [Sb.cells]; omega), ← this]
      congr 1
      simp [Sb.cells]
      omega
theorem row_form {w : World} {B : Nat} {e : TypeId} {s : Nat} {v : Value} {n : Nat} {xs : List Value} (h : w.ownsRow B e s v n xs) : ∃ ao cap, v = .slice ao n cap ∧ (n ≤ cap ∧ cap ≤ maxLen) ∧ (n = 0 ∨ ∃ b, ao = some ⟨b, 0, none⟩ ∧ ∀ j, j < n * s → w.cell? ⟨b, j, none⟩ = xs[j]?) := by
  have hl := h.1
  rcases h.2 with ⟨rfl, rfl⟩ | ⟨g, cap, cur, rfl, hB, hg, h1, h2, h3, h4⟩
  · exact ⟨none, 0, rfl, ⟨Nat.le_refl _, by simp⟩, .inl rfl⟩
  · exact ⟨_, cap, rfl, ⟨h1, h2⟩, .inr ⟨g, rfl, fun j hj => h.cellAt j hj⟩⟩
theorem sbs_of_owns {w : World} {B : Nat} {e : TypeId} {v : Value} {l : List Sb} (h : w.ownsRow B e 5 v l.length (scs l)) : Sbs w v l := by
  obtain ⟨ao, cap, rfl, hc, h0 | ⟨b, rfl, hcell⟩⟩ := row_form h
  · exact ⟨ao, cap, rfl, hc, .inl (List.length_eq_zero_iff.1 h0)⟩
  · refine ⟨_, cap, rfl, hc, .inr ⟨b, 0, rfl, fun k hk => ?_⟩⟩
    have hu : l[k]? = some (l.getD k sb0) := by rw [List.getD_eq_getElem?_getD, List.getElem?_eq_getElem hk]; rfl
    have key : ∀ j, j < 5 → w.cell? ⟨b, k * 5 + j, none⟩ = (l.getD k sb0).cells[j]? := fun j hj => (hcell (k * 5 + j) (by omega)).trans (scs_get l k _ hu j hj)
    simp only [Nat.zero_add]
    exact ⟨key 0 (by omega), key 1 (by omega), key 2 (by omega), key 3 (by omega), key 4 (by omega)⟩
theorem wls_of {w : World} {B : Nat} {v : Value} {ws : List Wv} {us : List Wl} (h : w.ownsRow B 73 5 v us.length (wcs ws)) (hw : Ws w B ws us) (hl : ∀ u ∈ us, u.props.length ≤ 32) : Wls w v us := by
  obtain ⟨ao, cap, rfl, hc, h0 | ⟨b, rfl, hcell⟩⟩ := row_form h
  · exact ⟨ao, cap, rfl, hc, .inl (List.length_eq_zero_iff.1 h0)⟩
  · refine ⟨_, cap, rfl, hc, .inr ⟨b, 0, rfl, fun k hk => ?_⟩⟩
    obtain ⟨a, ha⟩ : ∃ a, ws[k]? = some a := ⟨_, List.getElem?_eq_getElem (by rw [hw.1]; exact hk)⟩
    have hu : us[k]? = some (us.getD k wl0) := by rw [List.getD_eq_getElem?_getD, List.getElem?_eq_getElem hk]; rfl
    obtain ⟨e1, e2, e3, e4, e5⟩ := hw.2 k a _ ha hu
    have key : ∀ j, j < 5 → w.cell? ⟨b, k * 5 + j, none⟩ = a.cells[j]? := fun j hj => (hcell (k * 5 + j) (by omega)).trans (wcs_get ws k a ha j hj)
    have hm : us.getD k wl0 ∈ us := List.mem_of_getElem? hu
    rw [Nat.zero_add]
    refine ⟨a.props.ao, a.props.n, a.props.cap, ⟨?_, ?_, ?_, ?_, key 4 (by omega)⟩, prp_of_owns e5, by have := hl _ hm; omega⟩
    · rw [← e1]; exact key 0 (by omega)
    · rw [← e2]; exact key 1 (by omega)
    · rw [← e3]; exact key 2 (by omega)
    · rw [← e4]; exact key 3 (by omega)
theorem Mean.bel {w w' : World} {B : Nat} {p : Pkv} {P : Pa} (h : Mean w B p P) (hb : Below w.heap.size w w') : Mean w' B p P :=
  ⟨h.sc, owns_below h.props hb, by
    obtain ⟨ws, h1, h2, h3⟩ := h.wills
    exact ⟨ws, owns_below h1 hb, h2, fun i a b ha hb' => by
      obtain ⟨k1, k2, k3, k4, k5⟩ := h3 i a b ha hb'
      exact ⟨k1, k2, k3, k4, owns_below k5 hb⟩⟩, owns_below h.user hb, owns_below h.pass hb, owns_below h.subs hb, owns_below h.filters hb, owns_below h.codes hb⟩
theorem Mean.rpk {w : World} {B : Nat} {q : Pkv} {P : Pa} (h : Mean w B q P) (hl : Lts P) : RPk w q P := by
  obtain ⟨ws, h1, h2⟩ := h.wills
  exact ⟨h.sc, prp_of_owns h.props, wls_of h1 h2 hl.wp, txs_of_owns h.user, txs_of_owns h.pass, sbs_of_owns h.subs, txs_of_owns h.filters, nms_of_owns h.codes⟩
theorem Lts.small {P : Pa} (h : Lts P) : Small P := ⟨by have := h.props; omega, by have := h.wills; omega, by have := h.subs; omega⟩
/-- the packet that bytes tell, or none -/
def paz : Pa := pa0 0 false 0 false
def dP (l : List Int) : Pa := match dbody l with
  | some r => if dnum l = 0 then r.1 else paz
  | none => paz
def dN (l : List Int) : Nat := if dnum l = 0 then (meas l).2.1 else 0
theorem mean_z (w : World) (B : Nat) : Mean w B pkz paz := ⟨⟨rfl, rfl, rfl, rfl, rfl, rfl, rfl, rfl, rfl, rfl, rfl, rfl⟩, row0 _ _ _ _, wills0 _ _, row0 _ _ _ _, row0 _ _ _ _, row0 _ _ _ _, row0 _ _ _ _, row0 _ _ _ _⟩
theorem lts_z : Lts paz := ⟨by simp [paz, pa0], by simp [paz, pa0], by simp [paz, pa0], by simp [paz, pa0], by simp [paz, pa0], by simp [paz, pa0], by simp [paz, pa0], by simp [paz, pa0]⟩
theorem dP_lts (l : List Int) : Lts (dP l) := by
  unfold dP
  cases h : dbody l with
  | none => exact lts_z
  | some r =>
    show Lts (if dnum l = 0 then r.1 else paz)
    split
    · exact dbody_lts (P := r.1) (l' := r.2) h
    · exact lts_z
theorem dP_bad {l : List Int} (h : dnum l ≠ 0) : dP l = paz := by
  unfold dP
  cases dbody l with
  | none => rfl
  | some r => exact if_neg h
theorem dP_good {l r : List Int} {P : Pa} (h : dnum l = 0) (hd : dbody l = some (P, r)) : dP l = P := by
  unfold dP
  rw [hd]
  exact if_pos h
/-- what packet.Decode tells, in one -/
theorem dec_uni (v : Value) (l : List Int) (w : World) (h : Byt w v l) : Calls Tryz.prog 33 #[v] w fun e w' => ∃ (q : Pkv) (E : Value), e = .returned (.tuple #[q.val, .int .i64 (dN l : Nat), E]) ∧ Hid (Mean w' w.heap.size q (dP l)) ∧ Hid (ErrX w' E (dnum l)) ∧ Below w.heap.size w w' := by
  refine (decode_any v l w h).mono ?_
  rintro e w' ⟨q, n, E, rfl, h1 | h1, hb⟩
  · obtain ⟨h0, rfl, rfl, hE⟩ := h1
    obtain ⟨x, d, rfl, hd, hE⟩ := unhide hE
    exact ⟨pkz, _, by unfold dN; rw [if_neg h0], by rw [dP_bad h0]; exact mean_z _ _, .inr ⟨d, hd, hE⟩, hb⟩
  · obtain ⟨h0, rfl, rfl, P, r, hd, hm⟩ := h1
    exact ⟨q, _, by unfold dN; rw [if_pos h0], by rw [dP_good h0 hd]; exact hm, .inl ⟨h0, rfl⟩, hb⟩
/-- .. and the page's -/
theorem pdec_uni (v : Value) (l : List Int) (w : World) (h : Byt w v l) : Calls Tryz.prog 34 #[v, .int .i64 65536] w fun e w' => ∃ q : Pkv, e = .returned (.tuple #[q.val, .int .i64 (dN l : Nat), .int .i64 (dnum l)]) ∧ Hid (Mean w' w.heap.size q (dP l)) ∧ Below w.heap.size w w' := by
  refine (pdec_pg v l 65536 w h (by omega)).mono ?_
  rintro e w' ⟨q, n, rfl, h1, hb⟩
  rw [pnum_is] at h1 ⊢
  rcases h1 with ⟨h0, rfl, rfl⟩ | ⟨h0, rfl, P, r, hd, hm⟩
  · exact ⟨pkz, by unfold dN; rw [if_neg h0], by rw [dP_bad h0]; exact mean_z _ _, hb⟩
  · exact ⟨q, by unfold dN; rw [if_pos h0], by rw [dP_good h0 hd]; exact hm, hb⟩
end Go.Proofs.YtpoeakillimibaaGreatDoor.K
/- Proved here: dovecoteref0.CopyBytes at any bytes. Helper contract. -/
namespace Go.Proofs.YtpoeakillimibaaGreatDoor
open Go.RowKit
set_option maxRecDepth 100000

theorem copyb_nil (ao : Option Addr) (cap : Nat) (w : World) : Calls Tryz.prog 32 #[.slice ao 0 cap] w fun e w' => e = .returned (.slice none 0 0) ∧ w' = w := by
  go_enter Tryz.func32, Tryz.ntmps32
  go_wp2
  refine wp_loop_rounds 1 ?_
  rw [rounds_succ]
  go_wp2
  go_ret
  exact ⟨rfl, rfl⟩
theorem copyb_any (v : Value) (l : List Int) (w : World) (h : Byt w v l) (hl : l.length ≤ 140737488355328) : Calls Tryz.prog 32 #[v] w fun e w' => ∃ v', e = .returned v' ∧ Hid (w'.ownsRow w.heap.size 5 1 v' l.length (l.map (Value.int .u8))) ∧ Hid (Byt w' v' l) ∧ Below w.heap.size w w' := by
  have hr := h.range
  obtain ⟨ao, cap, rfl, hlen, -, hcase⟩ := h
  rcases hcase with rfl | ⟨b, off, rfl, hc⟩
  · refine (copyb_nil ao cap w).mono ?_
    rintro e w' ⟨rfl, rfl⟩
    exact ⟨_, rfl, World.ownsRow_nil _ _ _ _, ⟨none, 0, rfl, ⟨Nat.le_refl _, by unfold maxLen; omega⟩, fun j => by simp, .inl rfl⟩, Below.refl _ _⟩
  · refine (copy_core b off l.length cap l w rfl hl hc).mono ?_
    rintro e w' ⟨v', rfl, hown, hb⟩
    exact ⟨v', rfl, hown, byt_of_owns hown hr, hb⟩
end Go.Proofs.YtpoeakillimibaaGreatDoor
/- Proved here: dovecotelaw4.PacketDecodes, walked: it tells true at any asks read from memory, and turns nothing that was there. Helper contracts. -/
namespace Go.Proofs.YtpoeakillimibaaGreatDoor.K
open Go.RowKit
set_option maxRecDepth 100000

/-- the bytes of an ask in memory -/
def AskB (W : World) (b off : Nat) (vb : Value) (bs : List Int) : Prop := W.cell? ⟨b, off + 19, none⟩ = some vb ∧ Byt W vb bs ∧ bs.length ≤ 140737488351232
set_option maxHeartbeats 8000000 in
theorem decodes_walk (b off len cap : Nat) (vb : Nat → Value) (bs : Nat → List Int) (w : World) (_hlen : len ≤ maxLen) (hg : Laid w) (hc : ∀ k, k < len → AskB w b (off + k * 20) (vb k) (bs k)) :
    Calls Tryz.prog 4 #[.slice (some ⟨b, off, none⟩) len cap] w fun e w' => e = .returned (.bool true) ∧ Below w.heap.size w w' := by
  unfold maxLen at _hlen
  have HC := hide hc
  have HG := hide hg
  clear hc hg
  go_enter Tryz.func4, Tryz.ntmps4
  go_wp2
  go_loopw [3] (fun i wr => ∃ k : Nat, k ≤ len ∧ k ≤ 10 ∧ i = .int .i64 k ∧ Below w.heap.size w wr) (fun i _ => 10 - (intOf i).toNat)
  case atStart => exact ⟨0, Nat.zero_le _, by omega, rfl, Below.refl _ _⟩
  case round =>
    obtain ⟨k, hk, hk10, rfl, hbel⟩ := hrel
    by_cases hlt : k < len ∧ k < 10
    · obtain ⟨hlt, hlt10⟩ := hlt
      obtain ⟨hc0, hby, hbl⟩ := (unhide HC) k hlt
      have c0 := (hbel.cell (p := ⟨b, off + k * 20 + 19, none⟩) (cell_lt hc0)).trans hc0
      have hbw : b < w.heap.size := cell_lt hc0
      have HY : Hid (Byt wr (vb k) (bs k)) := hby.below hbel
      have HG0 : Hid (Laid wr) := (unhide HG).below hbel (unhide HG).pos
      have hsz := hbel.size
      have HBEL := hide hbel
      clear hc0 hby hbel
      generalize vb k = u at c0 HY
      generalize bs k = z at HY hbl
      obtain ⟨ao, vc, rfl, -, -⟩ := (unhide HY).form
      generalize hn : z.length = n at c0 hbl HY
      have HN := hide hn
      clear hn
      have HD : Hid (∀ W, Below wr.heap.size wr W → W.cell? ⟨b, off + k * 20 + 19, none⟩ = some (.slice ao n vc) ∧ Byt W (.slice ao n vc) z ∧ Laid W ∧ Below w.heap.size w W) := fun W hW => by
        refine ⟨(hW.cell (p := ⟨b, off + k * 20 + 19, none⟩) (cell_lt c0)).trans c0, (unhide HY).below hW, (unhide HG0).below hW (unhide HG0).pos, (unhide HBEL).trans (hW.mono hsz)⟩
      clear HG0
      go_upto_region 4 with fail
      go_cut [40] from 11 to 97 (fun s40 wx => ∃ c : Bool, s40 = .bool c ∧ wx = wr)
      case first =>
        by_cases h7 : 70000 < n
        · go_wp2
          go_meet
          case rel => exact ⟨_, rfl, rfl⟩
        · by_cases hk2 : 2 < k
          · by_cases h5 : 5000 < n
            · go_wp2
              go_meet
              case rel => exact ⟨_, rfl, rfl⟩
            · go_wp2
              go_meet
              case rel => exact ⟨_, rfl, rfl⟩
          · go_wp2
            go_meet
            case rel => exact ⟨_, rfl, rfl⟩
      case rest =>
      obtain ⟨c, rfl, hwr⟩ := hcut
      obtain rfl : wc = wr := hwr
      obtain ⟨wr, hwr⟩ : ∃ wr, wr = wc := ⟨_, rfl⟩
      subst hwr
      cases c
      · go_wp2_with fail
        refine (copyb_any _ z _ (unhide HY) (by rw [unhide HN]; omega)).mono ?_
        rintro e w2 ⟨vx, rfl, -, hx2, hb2⟩
        have HC2 := hide hb2
        have d2 := ((unhide HD) w2 hb2).1
        obtain ⟨xo, xc, hvx, -, -⟩ := (unhide hx2).form
        subst hvx
        have HX2 := hx2
        clear hb2 hx2 c0
        go_wp2_with fail
        refine (dec_uni _ z w2 (unhide HX2)).mono ?_
        rintro e w3 ⟨q, E, rfl, hm3, hE3, hb3⟩
        have HM3 := hm3
        have HE3 := hE3
        have HX3 := hide ((unhide HX2).below hb3)
        have HC3 : Hid (Below wr.heap.size wr w3) := (unhide HC2).trans (hb3.mono (unhide HC2).size)
        have HB3 := hide hb3
        have HLT := hide (dP_lts z)
        clear hm3 hE3 hb3 d2
        generalize hdp : dP z = P at HM3 HLT
        have HPZ := hide hdp
        clear hdp
        dsimp only
        iterate 13 go_step
        refine wpList_value rfl (packet_alloc _ _ _ _ _ _) ?_
        simp only [Act.put, List.setIfInBounds_toArray, List.set_cons_zero, List.set_cons_succ]
        refine wpList_skip rfl (packet_store _ _ _ _ _ _ _ q _ rfl rfl) ?_
        simp only [Act.put]
        have HA4 : Hid (Below w3.heap.size w3 (w3.alloc (.cells q.cells.toArray 30))) := (Below.refl _ _).alloc (Nat.le_refl _) _
        have HP4 := hide (pk_new w3 q)
        obtain ⟨B5, hB5⟩ : ∃ B5, B5 = w3.heap.size := ⟨_, rfl⟩
        rw [← hB5] at HP4 ⊢
        have h35 : w2.heap.size ≤ B5 := by rw [hB5]; exact (unhide HB3).size
        generalize w3.alloc (.cells q.cells.toArray 30) = w4 at HA4 HP4 ⊢
        have HM4 : Hid (Mean w4 w2.heap.size q P) := (unhide HM3).bel (unhide HA4)
        have HE4 : Hid (ErrX w4 E (dnum z)) := (unhide HE3).below (unhide HA4)
        have HX4 := hide ((unhide HX3).below (unhide HA4))
        have HB4 : Hid (Below w2.heap.size w2 w4) := (unhide HB3).trans ((unhide HA4).mono (unhide HB3).size)
        have HC4 : Hid (Below wr.heap.size wr w4) := (unhide HC3).trans ((unhide HA4).mono (unhide HC3).size)
        have d4 := ((unhide HD) w4 (unhide HC4)).1
        have HY4 := hide ((unhide HD) w4 (unhide HC4)).2.1
        clear HM3 HE3 HX3 HB3 HC3 HA4 hB5
        have HU := hide (pdec_uni (.slice ao n vc) z w4 (unhide HY4))
        generalize hdn : dN z = nn at HU ⊢
        generalize hdm : dnum z = mm at HU HE4
        clear hdn hdm
        go_wp2_with fail
        refine (unhide HU).mono ?_
        rintro e w5 ⟨q2, rfl, hm5, hb5⟩
        have HM5 : Hid (Mean w5 w4.heap.size q2 P) := by
          have k := unhide hm5
          rw [unhide HPZ] at k
          exact k
        have HMq : Hid (Mean w5 w2.heap.size q P) := (unhide HM4).bel hb5
        have HE5 : Hid (ErrX w5 E mm) := (unhide HE4).below hb5
        have HX5 := hide ((unhide HX4).below hb5)
        have HP5 := hide ((unhide HP4).below hb5)
        have HB5 : Hid (Below w2.heap.size w2 w5) := (unhide HB4).trans (hb5.mono (unhide HB4).size)
        have HC5 : Hid (Below wr.heap.size wr w5) := (unhide HC4).trans (hb5.mono (unhide HC4).size)
        clear hm5 hb5 HM4 HE4 HX4 HP4 HB4 HC4 HY4 HU d4
        dsimp only
        iterate 13 go_step
        refine wpList_value rfl (packet_alloc _ _ _ _ _ _) ?_
        simp only [Act.put, List.setIfInBounds_toArray, List.set_cons_zero, List.set_cons_succ]
        refine wpList_skip rfl (packet_store _ _ _ _ _ _ _ q2 _ rfl rfl) ?_
        simp only [Act.put]
        have HA6 : Hid (Below w5.heap.size w5 (w5.alloc (.cells q2.cells.toArray 30))) := (Below.refl _ _).alloc (Nat.le_refl _) _
        have HQ6 := hide (pk_new w5 q2)
        obtain ⟨B8, hB8⟩ : ∃ B8, B8 = w5.heap.size := ⟨_, rfl⟩
        rw [← hB8] at HQ6 ⊢
        clear hB8
        generalize w5.alloc (.cells q2.cells.toArray 30) = w6 at HA6 HQ6 ⊢
        have HM6 : Hid (Mean w6 w4.heap.size q2 P) := (unhide HM5).bel (unhide HA6)
        have HMq6 : Hid (Mean w6 w2.heap.size q P) := (unhide HMq).bel (unhide HA6)
        have HE6 : Hid (ErrX w6 E mm) := (unhide HE5).below (unhide HA6)
        have HX6 := hide ((unhide HX5).below (unhide HA6))
        have HP6 := hide ((unhide HP5).below (unhide HA6))
        have HB6 : Hid (Below w2.heap.size w2 w6) := (unhide HB5).trans ((unhide HA6).mono (unhide HB5).size)
        have HC6 : Hid (Below wr.heap.size wr w6) := (unhide HC5).trans ((unhide HA6).mono (unhide HC5).size)
        clear HM5 HMq HE5 HX5 HP5 HB5 HC5 HA6
        have HG6 := hide ((unhide HD) w6 (unhide HC6)).2.2.1
        go_wp2_with fail
        refine (num4 E mm w6 (unhide HG6) (unhide HE6)).mono ?_
        rintro e w7 ⟨rfl, hb7⟩
        have HM7 : Hid (Mean w7 w4.heap.size q2 P) := (unhide HM6).bel hb7
        have HMq7 : Hid (Mean w7 w2.heap.size q P) := (unhide HMq6).bel hb7
        have HX7 := hide ((unhide HX6).below hb7)
        have HP7 := hide ((unhide HP6).below hb7)
        have HQ7 := hide ((unhide HQ6).below hb7)
        have HB7 : Hid (Below w2.heap.size w2 w7) := (unhide HB6).trans (hb7.mono (unhide HB6).size)
        have HC7 : Hid (Below wr.heap.size wr w7) := (unhide HC6).trans (hb7.mono (unhide HC6).size)
        clear hb7 HM6 HMq6 HE6 HX6 HP6 HQ6 HB6 HC6 HG6
        have hmm : (mm != mm) = false := by simp
        dsimp only
        iterate 22 go_step
        refine wpList_wanted (by rfl) fun K hK => wp_load_mid 30 _ rfl B5 0 rfl q.cells _ (unhide HP7).range Tryz.underlying30 rfl packet_size (hK _ _ ?_)
        clear hK K
        simp only [Act.put, List.setIfInBounds_toArray, List.set_cons_zero, List.set_cons_succ]
        refine wpList_wanted (by rfl) fun K hK => wp_load_mid 30 _ rfl B8 0 rfl q2.cells _ (unhide HQ7).range Tryz.underlying30 rfl packet_size (hK _ _ ?_)
        clear hK K
        simp only [Act.put, List.setIfInBounds_toArray, List.set_cons_zero, List.set_cons_succ]
        have HEQ : Hid (Calls Tryz.prog 30 #[.agg q.cells.toArray, .agg q2.cells.toArray] w7 fun e w' => e = .returned (.bool true) ∧ Below w7.heap.size w7 w') := eqpk_same q q2 P w7 ((unhide HMq7).rpk (unhide HLT)) ((unhide HM7).rpk (unhide HLT)) (unhide HLT).small
        go_wp2_with fail
        refine (unhide HEQ).mono ?_
        rintro e w8 ⟨rfl, hb8⟩
        have HMq8 : Hid (Mean w8 w2.heap.size q P) := (unhide HMq7).bel hb8
        have HX8 := hide ((unhide HX7).below hb8)
        have HP8 := hide ((unhide HP7).below hb8)
        have HB8 : Hid (Below w2.heap.size w2 w8) := (unhide HB7).trans (hb8.mono (unhide HB7).size)
        have HC8 : Hid (Below wr.heap.size wr w8) := (unhide HC7).trans (hb8.mono (unhide HC7).size)
        have d8 := ((unhide HD) w8 (unhide HC8)).1
        have HY8 := hide ((unhide HD) w8 (unhide HC8)).2.1
        clear hb8 HM7 HMq7 HX7 HP7 HQ7 HB7 HC7 HEQ hmm
        go_wp2_with fail
        refine (eq_any _ _ z z w8 (unhide HX8) (unhide HY8)).mono ?_
        rintro e w9 ⟨rfl, kk, hw9⟩
        rw [decide_eq_true (rfl : z = z)]
        have hb9 : Below w8.heap.size w8 w9 := by rw [hw9]; exact below_drewN (Below.refl _ _) kk
        have HMq9 : Hid (Mean w9 w2.heap.size q P) := (unhide HMq8).bel hb9
        have HP9 := hide ((unhide HP8).below hb9)
        have HB9 : Hid (Below w2.heap.size w2 w9) := (unhide HB8).trans (hb9.mono (unhide HB8).size)
        have HC9 : Hid (Below wr.heap.size wr w9) := (unhide HC8).trans (hb9.mono (unhide HC8).size)
        clear hw9 hb9 HMq8 HX8 HP8 HB8 HC8 HY8 d8
        go_upto_region 11 with fail
        go_step
        refine wpList_load_mid rfl 30 _ rfl B5 0 rfl q.cells _ (unhide HP9).range Tryz.underlying30 rfl packet_size ?_
        simp only [Act.put, List.setIfInBounds_toArray, List.set_cons_zero, List.set_cons_succ]
        have HSP : Hid (Calls Tryz.prog 35 #[.agg q.cells.toArray] w9 fun e w' => e = .returned (.tuple #[]) ∧ Below w2.heap.size w9 w') := packet_sp w2.heap.size q P w9 (unhide HB9).size (unhide HMq9) (unhide HLT)
        go_wp2_with fail
        refine (unhide HSP).mono ?_
        rintro e wa ⟨rfl, hba⟩
        have HXa : Hid (Byt wa (.slice xo z.length xc) z) := (unhide HX2).below ((unhide HB9).trans hba)
        have HCa : Hid (Below wr.heap.size wr wa) := (unhide HC9).trans (hba.mono (unhide HC2).size)
        have da := ((unhide HD) wa (unhide HCa)).1
        have HYa := hide ((unhide HD) wa (unhide HCa)).2.1
        clear hba HMq9 HP9 HB9 HC9 HSP
        go_wp2_with fail
        refine (eq_any _ _ z z wa (unhide HXa) (unhide HYa)).mono ?_
        rintro e wb ⟨rfl, kk, hwb⟩
        rw [decide_eq_true (rfl : z = z)]
        have hbb : Below wa.heap.size wa wb := by rw [hwb]; exact below_drewN (Below.refl _ _) kk
        have HCb : Hid (Below wr.heap.size wr wb) := (unhide HCa).trans (hbb.mono (unhide HCa).size)
        have HBb := hide ((unhide HD) wb (unhide HCb)).2.2.2
        clear hwb hbb HXa HCa HYa da HCb
        go_wp2
        go_roundw
        case rel => exact ⟨k + 1, by omega, by omega, by go_num, unhide HBb⟩
        case measure => simp [intOf]; omega
      · go_wp2
        go_ret
        exact ⟨rfl, unhide HBEL⟩
    · go_wp2_with (go_at_call 31; refine (wakes4 _).mono ?_; rintro e w' ⟨rfl, hbw⟩)
      all_goals (
        go_ret
        exact ⟨rfl, hbel.trans (hbw.mono hbel.size)⟩)
theorem decodes_walk0 (ao : Option Addr) (cap : Nat) (w : World) : Calls Tryz.prog 4 #[.slice ao 0 cap] w fun e w' => e = .returned (.bool true) ∧ Below w.heap.size w w' := by
  go_enter Tryz.func4, Tryz.ntmps4
  go_wp2
  refine wp_loop_rounds 1 ?_
  rw [rounds_succ]
  go_wp2_with (go_at_call 31; refine (wakes4 _).mono ?_; rintro e w' ⟨rfl, hbw⟩)
  go_ret
  exact ⟨rfl, hbw⟩
end Go.Proofs.YtpoeakillimibaaGreatDoor.K
