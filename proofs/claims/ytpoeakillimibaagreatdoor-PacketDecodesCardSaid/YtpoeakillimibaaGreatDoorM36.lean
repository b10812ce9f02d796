/- Proved here: helpers, one text behind the other. -/
import Derived.Test.YtpoeakillimibaaGreatDoorM33
import Derived.Test.YtpoeakillimibaaGreatDoorZKTk
import Derived.Laws.AppendOwn
import Derived.Test.YtpoeakillimibaaGreatDoorM22
import Derived.Test.YtpoeakillimibaaGreatDoorM21
/- Proved here: packet's reader: list, of subscriptions, of filters, of codes. Helper contracts. -/
namespace Go.Proofs.YtpoeakillimibaaGreatDoor.K
open Go.RowKit
set_option maxRecDepth 100000

theorem infoSub : (Tryz.prog.info? 75).map (fun i => (i.zero, i.size, i.bytes)) = some (some (.agg #[.string ⟨#[]⟩, .int .i64 0, .bool false, .bool false, .int .i64 0]), 5, 40) := by kernel_rfl
theorem infoInt : (Tryz.prog.info? 3).map (fun i => (i.zero, i.size, i.bytes)) = some (some (.int .i64 0), 1, 8) := by kernel_rfl
theorem infoStr : (Tryz.prog.info? 9).map (fun i => (i.zero, i.size, i.bytes)) = some (some (.string ⟨#[]⟩), 1, 16) := by kernel_rfl
def Sb.cells (s : Sb) : List Value := [.string s.filter, .int .i64 s.qos, .bool s.nolocal, .bool s.aspub, .int .i64 s.handling]
def scs (d : List Sb) : List Value := d.flatMap Sb.cells
theorem scs_app (d : List Sb) (s : Sb) : scs (d ++ [s]) = scs d ++ s.cells := by unfold scs; simp
theorem five_cell (w : World) (a b c d e : Value) (t : TypeId) : ∀ j u, [a, b, c, d, e][j]? = some u → (w.alloc (.cells #[a, b, c, d, e] t)).cell? ((⟨w.heap.size, 0, none⟩ : Addr).add j) = some u := by
  intro j u hj
  match j, hj with
  | 0, hj => simp at hj; subst hj; simp [Addr.add]
  | 1, hj => simp at hj; subst hj; simp [Addr.add]
  | 2, hj => simp at hj; subst hj; simp [Addr.add]
  | 3, hj => simp at hj; subst hj; simp [Addr.add]
  | 4, hj => simp at hj; subst hj; simp [Addr.add]
theorem one_str (s : ByteArray) : ∀ u ∈ [Value.string s], u.oneCell' = true := by
  intro u hu; simp at hu; subst hu; rfl
theorem five_one (s : Sb) : ∀ u ∈ s.cells, u.oneCell' = true := by
  intro u hu
  simp only [Sb.cells, List.mem_cons, List.not_mem_nil, or_false] at hu
  rcases hu with rfl | rfl | rfl | rfl | rfl <;> rfl
def Listcodes (w0 : World) (R : Nat) (p : Pkv) (st : Option (List Int)) (w : World) (e : Ending) (w' : World) : Prop :=
  e = .returned (.tuple #[]) ∧ ∃ (t : Sl) (d : List Int) (st' : Option (List Int)), Pk w' R { p with codes := t } ∧ Hid (w'.ownsRow w.heap.size 3 1 t.val d.length (d.map (Value.int .i64))) ∧ Stp (list? one?) st d st' ∧ RS w0 w' R st' ∧ BX R isAny w w'
set_option maxHeartbeats 4000000 in
theorem list_codes (R : Nat) (p : Pkv) (st : Option (List Int)) (w0 w : World) (h : RS w0 w R st) (hp : Pk w R p) (hF : p.codes = ⟨none, 0, 0⟩) (hl : ∀ l, st = some l → l.length ≤ 65536) (h8 : p.kind ≠ 8) (h10 : p.kind ≠ 10) : Calls Tryz.prog 123 #[.pointer (some ⟨R, 0, none⟩)] w (Listcodes w0 R p st w) := by
  obtain ⟨i0, hi, hz0, hz1, hz2⟩ := info_parts infoInt
  have hlt := h.lt
  have HW0 := h.keep
  have HP := hide hp
  have HS := hide h
  have HL := hide hl
  have HF := hide hF
  clear hp h hl hF
  go_enter Tryz.func123, Tryz.ntmps123
  go_wp2
  go_loopw [3] (fun c0 wr => ∃ (d : List Int) (st1 : Option (List Int)) (t : Sl) (k : Nat), c0 = .int .i64 k ∧ k ≤ 65536 ∧ Hid (d.length = k) ∧ Hid (∀ l, st1 = some l → k + l.length ≤ 65536) ∧ Hid (Pk wr R { p with codes := t }) ∧ Hid (wr.ownsRow w.heap.size 3 1 t.val k (d.map (Value.int .i64))) ∧ Hid (Acc one? st d st1) ∧ Hid (RS w0 wr R st1) ∧ Hid (BX R isAny w wr)) (fun _ wr => mlen R wr)
  case atStart =>
    refine ⟨[], st, ⟨none, 0, 0⟩, 0, rfl, Nat.zero_le _, rfl, fun l hl => by have := (unhide HL) l hl; omega, ?_, World.ownsRow_nil _ _ _ _, Acc.start _ _, unhide HS, BX.refl _ _ _⟩
    show Pk _ _ _
    have e : { p with codes := ⟨none, 0, 0⟩ } = p := by rw [← unhide HF]
    rw [e]
    exact unhide HP
  case round =>
    obtain ⟨d, st1, ⟨ta, tn, tc⟩, k, rfl, hk, HD, HB, HPk, HOwn, HAcc, HRS, HBX⟩ := hrel
    obtain ⟨ao, m, cap, c19, ⟨g1, g2⟩, gl⟩ := (unhide HRS).rest
    unfold maxLen at g2
    have c0 := (unhide HPk).kind
    simp only at c0
    have cF : wr.cell? ⟨R, 18, none⟩ = some (.slice ta tn tc) := (unhide HPk).codes
    skip
    rcases (unhide HRS).err with ⟨l, rfl, c20⟩ | ⟨rfl, ty, x, c20⟩
    · have hm := gl l rfl
      clear gl
      by_cases hm0 : m = 0
      · subst hm0
        obtain rfl : l = [] := List.length_eq_zero_iff.1 hm
        go_wp2_with fail
        refine (mayCount_any k _).mono ?_
        rintro e wa ⟨rfl, hwa⟩
        obtain rfl := hwa.symm
        clear hwa
        go_wp2_with fail
        refine (must_any R _ (some []) w0 wr (unhide HRS)).mono ?_
        rintro e wb ⟨rfl, h2, hx2⟩
        have H2 := hide h2
        have HX2 := hide hx2
        clear h2 hx2
        go_wp2
        go_end0
        refine ⟨rfl, ⟨ta, tn, tc⟩, d, _, (unhide HPk).bx (unhide HX2), ?_, ?_, unhide H2, (unhide HBX).trans (unhide HX2).any⟩
        · show World.ownsRow _ _ _ _ _ _ _
          rw [unhide HD]
          exact owns_bx (unhide HOwn) (unhide HX2) hlt
        · refine ((unhide HAcc).done (.inr rfl)).bind ((?_ : Stp (mustR (mc d.length)) (some []) () (if mc k then (some []) else none)).bind (Stp.pure _ _))
          rw [unhide HD]
          exact Stp.must _ _
      · have hl0 : l ≠ [] := fun e => hm0 (by rw [← hm, e]; rfl)
        have hbd := bel_drew wr
        obtain ⟨X, hXd⟩ : ∃ X : Nat → Prop, X = fun g => g = R ∨ some g = (Value.slice ta tn tc).ownBlock := ⟨_, rfl⟩
        have HRSd : Hid (RSX w0 wr.drew R X (some l)) := by
          subst hXd
          exact ((unhide HRS).below hbd).good _ ⟨.inl rfl, fun g hg => by
            rcases hg with rfl | hg
            · exact Nat.lt_of_lt_of_le hlt (unhide HBX).size
            · exact ((unhide HOwn).lt g hg.symm).2⟩
        have HPd := hide ((unhide HPk).below hbd)
        have HBXd : Hid (BX R isAny w wr.drew) := (unhide HBX).trans (BX.of_below hbd (unhide HRS).lt)
        have HOd : Hid (wr.drew.ownsRow w.heap.size 3 1 (.slice ta tn tc) k (d.map (Value.int .i64))) := owns_below (unhide HOwn) hbd
        clear hbd
        go_wp2_with fail
        refine wp_region_noPanic ?_
        refine wp_region_held_drew (S := fun _ => True) (by kernel_rfl) trivial (fun hHeld => ?_)
        refine rtk 0 (h := ?_)
        refine rtk 1 (h := ?_)
        refine rtk 2 (h := ?_)
        refine rtk 3 (h := ?_)
        refine rtk 5 (h := ?_)
        refine wpAnyH_ready (rs := [4, 6]) (by kernel_rfl) (by simp) ?_
        refine rac (h := fun K hK => ?ra) (hs := (rac (h := fun K hK => ?rb) (hs := AllReadyH.nil)))
        case' ra =>
          go_simp
          refine hK.out _ _ trivial (fun hHeld => ?_)
          clear hK K
          refine rcl 6 (h := fun K hK => ?_)
          go_simp
          refine (one_anyX R X (some l) w0 _ (unhide HRSd)).mono ?_
          rintro e w2 ⟨x, st2, rfl, -, hs2, h2, hx2⟩
          have cF2 : w2.cell? ⟨R, 18, none⟩ = some (.slice ta tn tc) := (hx2.cell 18 (by unfold isRE; omega)).trans cF
          have hs2l : w.heap.size ≤ w2.heap.size := Nat.le_trans (unhide HBX).size hx2.size
          have HP2 := hide ((unhide HPd).bx hx2)
          have HRS2 := hide h2
          have HST2 := hide hs2
          have HBX2 : Hid (BX R isAny w w2) := (unhide HBXd).trans hx2.any
          have HO2 : Hid (w2.ownsRow w.heap.size 3 1 (.slice ta tn tc) k (d.map (Value.int .i64))) := owns_bx (unhide HOd) hx2 hlt
          have hR2 : R < w2.heap.size := Nat.lt_of_lt_of_le hlt hs2l
          have cF3 : (w2.alloc (.cells #[.int .i64 x] 3)).cell? ⟨R, 18, none⟩ = some (.slice ta tn tc) := (World.cell?_alloc_lt _ _ ⟨R, 18, none⟩ hR2).trans cF2
          clear hx2 h2 hs2
          refine hK.out _ _ trivial (fun hHeld => ?_)
          clear hK K
          refine rcl 7 (h := fun K hK => ?_)
          go_simp
          refine hK.out _ _ trivial (fun hHeld => ?_)
          clear hK K
        case' rb =>
          go_simp
          refine (one_anyX R X (some l) w0 _ (unhide HRSd)).mono ?_
          rintro e w2 ⟨x, st2, rfl, -, hs2, h2, hx2⟩
          have cF2 : w2.cell? ⟨R, 18, none⟩ = some (.slice ta tn tc) := (hx2.cell 18 (by unfold isRE; omega)).trans cF
          have hs2l : w.heap.size ≤ w2.heap.size := Nat.le_trans (unhide HBX).size hx2.size
          have HP2 := hide ((unhide HPd).bx hx2)
          have HRS2 := hide h2
          have HST2 := hide hs2
          have HBX2 : Hid (BX R isAny w w2) := (unhide HBXd).trans hx2.any
          have HO2 : Hid (w2.ownsRow w.heap.size 3 1 (.slice ta tn tc) k (d.map (Value.int .i64))) := owns_bx (unhide HOd) hx2 hlt
          have hR2 : R < w2.heap.size := Nat.lt_of_lt_of_le hlt hs2l
          have cF3 : (w2.alloc (.cells #[.int .i64 x] 3)).cell? ⟨R, 18, none⟩ = some (.slice ta tn tc) := (World.cell?_alloc_lt _ _ ⟨R, 18, none⟩ hR2).trans cF2
          clear hx2 h2 hs2
          refine hK.out _ _ trivial (fun hHeld => ?_)
          clear hK K
          refine wpAnyH_ready (rs := [4, 7]) (by kernel_rfl) (by simp) ?_
          refine rac (h := fun K hK => ?rc) (hs := (rac (h := fun K hK => ?rd) (hs := AllReadyH.nil)))
          case' rc =>
            go_simp
            refine hK.out _ _ trivial (fun hHeld => ?_)
            clear hK K
            refine rcl 7 (h := fun K hK => ?_)
            go_simp
            refine hK.out _ _ trivial (fun hHeld => ?_)
            clear hK K
          case' rd =>
            go_simp
            refine hK.out _ _ trivial (fun hHeld => ?_)
            clear hK K
            refine rcl 4 (h := fun K hK => ?_)
            go_simp
            refine hK.out _ _ trivial (fun hHeld => ?_)
            clear hK K
        all_goals (
          refine rcl 8 (h := fun K hK => ?_)
          refine step_append_run (Z := fun v' w' => w'.ownsRow w.heap.size 3 1 v' (k + 1) ((d.map (Value.int .i64)) ++ [.int .i64 x]) ∧ (w2.alloc (.cells #[.int .i64 x] 3)).grownBy w' (Value.slice ta tn tc).ownBlock) rfl _ _ 28 rfl (.slice ta tn tc) (.slice (some ⟨w2.heap.size, 0, none⟩) 1 1) rfl rfl ?hr ?_
          case hr =>
            obtain ⟨v4, w4, h1, h2, h3, _⟩ := run_append_own (P := Tryz.prog) (w := (w2.alloc (.cells #[.int .i64 x] 3))) w.heap.size 28 28 3 i0 _ 1 8 Tryz.underlying28 hi hz0 hz1 hz2 rfl (by decide) (.slice ta tn tc) k _ ((unhide HO2).alloc _) ⟨w2.heap.size, 0, none⟩ 1 1 [.int .i64 x] rfl (one_cell _ _ _) (one_one _ _) (by unfold maxLen; omega) (by omega) (by simp; omega)
            exact ⟨v4, w4, h1, h2, h3⟩
          rintro v4 w4 ⟨hO4, hg4⟩
          have hrow : ∀ g, (Value.slice ta tn tc).ownBlock = some g → w.heap.size ≤ g ∧ g < wr.heap.size := fun g hg => (unhide HOwn).lt g hg
          have hrR : (Value.slice ta tn tc).ownBlock ≠ some R := fun e => by have := (hrow R e).1; omega
          have HP4 : Hid (Pk w4 R { p with codes := ⟨ta, tn, tc⟩ }) := ((unhide HP2).below ((Below.refl _ _).alloc (Nat.le_refl _) _)).grown hg4 hrR
          have h0w : w0.heap.size ≤ w.heap.size := HW0.size
          have HRS4 : Hid (RSX w0 w4 R X st2) := ((unhide HRS2).below ((Below.refl _ _).alloc (Nat.le_refl _) _)).grown hg4 (fun g hg => by rw [hXd]; exact .inr hg.symm) hrR (fun g hg => Nat.le_trans h0w (hrow g hg).1)
          have HBX4 : Hid (BX R isAny w w4) := ((unhide HBX2).trans (BX.of_below ((Below.refl _ _).alloc (Nat.le_refl _) _) hR2)).grown hg4 (fun g hg => (hrow g hg).1) hlt
          obtain ⟨⟨sa, sn, sc⟩, hv4, _⟩ := owns_sl hO4
          have hv4 : v4 = .slice sa sn sc := hv4
          subst hv4
          have HO4 := hide hO4
          have cF4 : w4.cell? ⟨R, 18, none⟩ = some (.slice ta tn tc) := (unhide HP4).codes
          have fF4 : w4.frozen? ⟨R, 18, none⟩ = false := (unhide HP4).codes_f
          clear hO4 hg4 hrow cF2 cF3 HP2 HRS2 HBX2
          refine hK.out _ _ trivial (fun hHeld => ?_)
          clear hK K
          simp only [Act.put, List.setIfInBounds_toArray, List.set_cons_zero, List.set_cons_succ]
          refine rtk 9 (h := ?_)
          refine rtk 10 (h := ?_)
          refine rcl 11 (h := fun K hK => ?_)
          go_simp
          refine hK.out _ _ trivial (fun hHeld => ?_)
          clear hK K
          refine wpAnyH_done (by kernel_rfl) ?_ _
          refine NoPanic.normal ?_
          have HRS5 : Hid (RS w0 (w4.setCell ⟨R, 18, none⟩ (.slice sa sn sc)) R st2) := ((unhide HRS4).less (fun g => g = R) rfl (fun g hg => by rw [hXd]; exact .inl hg)).set 18 _ (by decide)
          have HP5 : Hid (Pk (w4.setCell ⟨R, 18, none⟩ (.slice sa sn sc)) R { p with codes := ⟨sa, sn, sc⟩ }) := (unhide HP4).set_codes ⟨sa, sn, sc⟩
          have HBX5 : Hid (BX R isAny w (w4.setCell ⟨R, 18, none⟩ (.slice sa sn sc))) := (unhide HBX4).set 18 _ trivial
          have HO5 : Hid ((w4.setCell ⟨R, 18, none⟩ (.slice sa sn sc)).ownsRow w.heap.size 3 1 (.slice sa sn sc) (k + 1) ((d ++ [x]).map (Value.int .i64))) := by
            show World.ownsRow _ _ _ _ _ _ _
            rw [show ((d ++ [x]).map (Value.int .i64)) = (d.map (Value.int .i64)) ++ [.int .i64 x] from by simp]
            exact owns_bx (unhide HO4) ((BX.refl R isAny w4).set 18 _ trivial) hlt
          have HA5 : Hid (Acc one? st (d ++ [x]) st2) := (unhide HAcc).step one?_shr (unhide HST2) hl0
          have HB5 : Hid (∀ l', st2 = some l' → (k + 1) + l'.length ≤ 65536) := by
            intro l' hl'
            subst hl'
            have h2 := stp_len one?_shr (unhide HST2)
            have h3 := (unhide HB) l rfl
            omega
          have hM : mlen R (w4.setCell ⟨R, 18, none⟩ (.slice sa sn sc)) < mlen R wr := by
            rw [mlen_some (unhide HRS)]
            cases st2 with
            | none => rw [mlen_none (unhide HRS5)]; omega
            | some l' =>
              rw [mlen_some (unhide HRS5)]
              have := stp_len one?_shr (unhide HST2)
              omega
          have hk1 : k + 1 ≤ 65536 := by
            have h3 := (unhide HB) l rfl
            have := List.length_pos_iff.2 hl0
            omega
          have HD5 : Hid ((d ++ [x]).length = k + 1) := by show _ = _; rw [List.length_append, unhide HD]; rfl
          clear HRS4 HP4 HBX4 HO4 cF4 fF4
          go_wp2
          go_roundw
          case rel => exact ⟨d ++ [x], st2, ⟨sa, sn, sc⟩, k + 1, by go_num, hk1, HD5, HB5, HP5, HO5, HA5, HRS5, HBX5⟩
          case measure => exact hM)
    · clear gl
      go_wp2_with fail
      refine (mayCount_any k _).mono ?_
      rintro e wa ⟨rfl, hwa⟩
      obtain rfl := hwa.symm
      clear hwa
      go_wp2_with fail
      refine (must_any R _ none w0 wr (unhide HRS)).mono ?_
      rintro e wb ⟨rfl, h2, hx2⟩
      have H2 := hide h2
      have HX2 := hide hx2
      clear h2 hx2
      go_wp2
      go_end0
      refine ⟨rfl, ⟨ta, tn, tc⟩, d, _, (unhide HPk).bx (unhide HX2), ?_, ?_, unhide H2, (unhide HBX).trans (unhide HX2).any⟩
      · show World.ownsRow _ _ _ _ _ _ _
        rw [unhide HD]
        exact owns_bx (unhide HOwn) (unhide HX2) hlt
      · refine ((unhide HAcc).done (.inl rfl)).bind ((?_ : Stp (mustR (mc d.length)) none () (if mc k then none else none)).bind (Stp.pure _ _))
        rw [unhide HD]
        exact Stp.must _ _
def Listfilters (w0 : World) (R : Nat) (p : Pkv) (st : Option (List Int)) (w : World) (e : Ending) (w' : World) : Prop :=
  e = .returned (.tuple #[]) ∧ ∃ (t : Sl) (d : List ByteArray) (st' : Option (List Int)), Pk w' R { p with filters := t } ∧ Hid (w'.ownsRow w.heap.size 9 1 t.val d.length (d.map Value.string)) ∧ Stp (list? text?) st d st' ∧ RS w0 w' R st' ∧ BX R isAny w w'
set_option maxHeartbeats 4000000 in
theorem list_filters (R : Nat) (p : Pkv) (st : Option (List Int)) (w0 w : World) (h : RS w0 w R st) (hp : Pk w R p) (hF : p.filters = ⟨none, 0, 0⟩) (hl : ∀ l, st = some l → l.length ≤ 65536) (h10 : p.kind = 10) : Calls Tryz.prog 123 #[.pointer (some ⟨R, 0, none⟩)] w (Listfilters w0 R p st w) := by
  obtain ⟨i0, hi, hz0, hz1, hz2⟩ := info_parts infoStr
  have hlt := h.lt
  have HW0 := h.keep
  have HP := hide hp
  have HS := hide h
  have HL := hide hl
  have HF := hide hF
  clear hp h hl hF
  go_enter Tryz.func123, Tryz.ntmps123
  go_wp2
  go_loopw [3] (fun c0 wr => ∃ (d : List ByteArray) (st1 : Option (List Int)) (t : Sl) (k : Nat), c0 = .int .i64 k ∧ k ≤ 65536 ∧ Hid (d.length = k) ∧ Hid (∀ l, st1 = some l → k + l.length ≤ 65536) ∧ Hid (Pk wr R { p with filters := t }) ∧ Hid (wr.ownsRow w.heap.size 9 1 t.val k (d.map Value.string)) ∧ Hid (Acc text? st d st1) ∧ Hid (RS w0 wr R st1) ∧ Hid (BX R isAny w wr)) (fun _ wr => mlen R wr)
  case atStart =>
    refine ⟨[], st, ⟨none, 0, 0⟩, 0, rfl, Nat.zero_le _, rfl, fun l hl => by have := (unhide HL) l hl; omega, ?_, World.ownsRow_nil _ _ _ _, Acc.start _ _, unhide HS, BX.refl _ _ _⟩
    show Pk _ _ _
    have e : { p with filters := ⟨none, 0, 0⟩ } = p := by rw [← unhide HF]
    rw [e]
    exact unhide HP
  case round =>
    obtain ⟨d, st1, ⟨ta, tn, tc⟩, k, rfl, hk, HD, HB, HPk, HOwn, HAcc, HRS, HBX⟩ := hrel
    obtain ⟨ao, m, cap, c19, ⟨g1, g2⟩, gl⟩ := (unhide HRS).rest
    unfold maxLen at g2
    have c0 := (unhide HPk).kind
    simp only at c0
    have cF : wr.cell? ⟨R, 17, none⟩ = some (.slice ta tn tc) := (unhide HPk).filters
    rw [h10] at c0
    rcases (unhide HRS).err with ⟨l, rfl, c20⟩ | ⟨rfl, ty, x, c20⟩
    · have hm := gl l rfl
      clear gl
      by_cases hm0 : m = 0
      · subst hm0
        obtain rfl : l = [] := List.length_eq_zero_iff.1 hm
        go_wp2_with fail
        refine (mayCount_any k _).mono ?_
        rintro e wa ⟨rfl, hwa⟩
        obtain rfl := hwa.symm
        clear hwa
        go_wp2_with fail
        refine (must_any R _ (some []) w0 wr (unhide HRS)).mono ?_
        rintro e wb ⟨rfl, h2, hx2⟩
        have H2 := hide h2
        have HX2 := hide hx2
        clear h2 hx2
        go_wp2
        go_end0
        refine ⟨rfl, ⟨ta, tn, tc⟩, d, _, (unhide HPk).bx (unhide HX2), ?_, ?_, unhide H2, (unhide HBX).trans (unhide HX2).any⟩
        · show World.ownsRow _ _ _ _ _ _ _
          rw [unhide HD]
          exact owns_bx (unhide HOwn) (unhide HX2) hlt
        · refine ((unhide HAcc).done (.inr rfl)).bind ((?_ : Stp (mustR (mc d.length)) (some []) () (if mc k then (some []) else none)).bind (Stp.pure _ _))
          rw [unhide HD]
          exact Stp.must _ _
      · have hl0 : l ≠ [] := fun e => hm0 (by rw [← hm, e]; rfl)
        have hbd := bel_drew wr
        obtain ⟨X, hXd⟩ : ∃ X : Nat → Prop, X = fun g => g = R ∨ some g = (Value.slice ta tn tc).ownBlock := ⟨_, rfl⟩
        have HRSd : Hid (RSX w0 wr.drew R X (some l)) := by
          subst hXd
          exact ((unhide HRS).below hbd).good _ ⟨.inl rfl, fun g hg => by
            rcases hg with rfl | hg
            · exact Nat.lt_of_lt_of_le hlt (unhide HBX).size
            · exact ((unhide HOwn).lt g hg.symm).2⟩
        have HPd := hide ((unhide HPk).below hbd)
        have HBXd : Hid (BX R isAny w wr.drew) := (unhide HBX).trans (BX.of_below hbd (unhide HRS).lt)
        have HOd : Hid (wr.drew.ownsRow w.heap.size 9 1 (.slice ta tn tc) k (d.map Value.string)) := owns_below (unhide HOwn) hbd
        clear hbd
        go_wp2_with fail
        refine wp_region_noPanic ?_
        refine wp_region_held_drew (S := fun _ => True) (by kernel_rfl) trivial (fun hHeld => ?_)
        refine rtk 0 (h := ?_)
        refine rtk 1 (h := ?_)
        refine rtk 2 (h := ?_)
        refine rtk 3 (h := ?_)
        refine rtk 5 (h := ?_)
        refine wpAnyH_ready (rs := [4, 6]) (by kernel_rfl) (by simp) ?_
        refine rac (h := fun K hK => ?ra) (hs := (rac (h := fun K hK => ?rb) (hs := AllReadyH.nil)))
        case' ra =>
          go_simp
          refine hK.out _ _ trivial (fun hHeld => ?_)
          clear hK K
          refine rcl 6 (h := fun K hK => ?_)
          go_simp
          refine (text_anyX R X (some l) w0 _ (unhide HRSd)).mono ?_
          rintro e w2 ⟨x, st2, rfl, -, hs2, h2, hx2⟩
          have cF2 : w2.cell? ⟨R, 17, none⟩ = some (.slice ta tn tc) := (hx2.cell 17 (by unfold isRE; omega)).trans cF
          have hs2l : w.heap.size ≤ w2.heap.size := Nat.le_trans (unhide HBX).size hx2.size
          have HP2 := hide ((unhide HPd).bx hx2)
          have HRS2 := hide h2
          have HST2 := hide hs2
          have HBX2 : Hid (BX R isAny w w2) := (unhide HBXd).trans hx2.any
          have HO2 : Hid (w2.ownsRow w.heap.size 9 1 (.slice ta tn tc) k (d.map Value.string)) := owns_bx (unhide HOd) hx2 hlt
          have hR2 : R < w2.heap.size := Nat.lt_of_lt_of_le hlt hs2l
          have cF3 : (w2.alloc (.cells #[.string x] 9)).cell? ⟨R, 17, none⟩ = some (.slice ta tn tc) := (World.cell?_alloc_lt _ _ ⟨R, 17, none⟩ hR2).trans cF2
          clear hx2 h2 hs2
          refine hK.out _ _ trivial (fun hHeld => ?_)
          clear hK K
          refine rcl 7 (h := fun K hK => ?_)
          go_simp
          refine hK.out _ _ trivial (fun hHeld => ?_)
          clear hK K
        case' rb =>
          go_simp
          refine (text_anyX R X (some l) w0 _ (unhide HRSd)).mono ?_
          rintro e w2 ⟨x, st2, rfl, -, hs2, h2, hx2⟩
          have cF2 : w2.cell? ⟨R, 17, none⟩ = some (.slice ta tn tc) := (hx2.cell 17 (by unfold isRE; omega)).trans cF
          have hs2l : w.heap.size ≤ w2.heap.size := Nat.le_trans (unhide HBX).size hx2.size
          have HP2 := hide ((unhide HPd).bx hx2)
          have HRS2 := hide h2
          have HST2 := hide hs2
          have HBX2 : Hid (BX R isAny w w2) := (unhide HBXd).trans hx2.any
          have HO2 : Hid (w2.ownsRow w.heap.size 9 1 (.slice ta tn tc) k (d.map Value.string)) := owns_bx (unhide HOd) hx2 hlt
          have hR2 : R < w2.heap.size := Nat.lt_of_lt_of_le hlt hs2l
          have cF3 : (w2.alloc (.cells #[.string x] 9)).cell? ⟨R, 17, none⟩ = some (.slice ta tn tc) := (World.cell?_alloc_lt _ _ ⟨R, 17, none⟩ hR2).trans cF2
          clear hx2 h2 hs2
          refine hK.out _ _ trivial (fun hHeld => ?_)
          clear hK K
          refine wpAnyH_ready (rs := [4, 7]) (by kernel_rfl) (by simp) ?_
          refine rac (h := fun K hK => ?rc) (hs := (rac (h := fun K hK => ?rd) (hs := AllReadyH.nil)))
          case' rc =>
            go_simp
            refine hK.out _ _ trivial (fun hHeld => ?_)
            clear hK K
            refine rcl 7 (h := fun K hK => ?_)
            go_simp
            refine hK.out _ _ trivial (fun hHeld => ?_)
            clear hK K
          case' rd =>
            go_simp
            refine hK.out _ _ trivial (fun hHeld => ?_)
            clear hK K
            refine rcl 4 (h := fun K hK => ?_)
            go_simp
            refine hK.out _ _ trivial (fun hHeld => ?_)
            clear hK K
        all_goals (
          refine rcl 8 (h := fun K hK => ?_)
          refine step_append_run (Z := fun v' w' => w'.ownsRow w.heap.size 9 1 v' (k + 1) ((d.map Value.string) ++ [.string x]) ∧ (w2.alloc (.cells #[.string x] 9)).grownBy w' (Value.slice ta tn tc).ownBlock) rfl _ _ 26 rfl (.slice ta tn tc) (.slice (some ⟨w2.heap.size, 0, none⟩) 1 1) rfl rfl ?hr ?_
          case hr =>
            obtain ⟨v4, w4, h1, h2, h3, _⟩ := run_append_own (P := Tryz.prog) (w := (w2.alloc (.cells #[.string x] 9))) w.heap.size 26 26 9 i0 _ 1 16 Tryz.underlying26 hi hz0 hz1 hz2 rfl (by decide) (.slice ta tn tc) k _ ((unhide HO2).alloc _) ⟨w2.heap.size, 0, none⟩ 1 1 [.string x] rfl (one_cell _ _ _) (one_str _) (by unfold maxLen; omega) (by omega) (by simp; omega)
            exact ⟨v4, w4, h1, h2, h3⟩
          rintro v4 w4 ⟨hO4, hg4⟩
          have hrow : ∀ g, (Value.slice ta tn tc).ownBlock = some g → w.heap.size ≤ g ∧ g < wr.heap.size := fun g hg => (unhide HOwn).lt g hg
          have hrR : (Value.slice ta tn tc).ownBlock ≠ some R := fun e => by have := (hrow R e).1; omega
          have HP4 : Hid (Pk w4 R { p with filters := ⟨ta, tn, tc⟩ }) := ((unhide HP2).below ((Below.refl _ _).alloc (Nat.le_refl _) _)).grown hg4 hrR
          have h0w : w0.heap.size ≤ w.heap.size := HW0.size
          have HRS4 : Hid (RSX w0 w4 R X st2) := ((unhide HRS2).below ((Below.refl _ _).alloc (Nat.le_refl _) _)).grown hg4 (fun g hg => by rw [hXd]; exact .inr hg.symm) hrR (fun g hg => Nat.le_trans h0w (hrow g hg).1)
          have HBX4 : Hid (BX R isAny w w4) := ((unhide HBX2).trans (BX.of_below ((Below.refl _ _).alloc (Nat.le_refl _) _) hR2)).grown hg4 (fun g hg => (hrow g hg).1) hlt
          obtain ⟨⟨sa, sn, sc⟩, hv4, _⟩ := owns_sl hO4
          have hv4 : v4 = .slice sa sn sc := hv4
          subst hv4
          have HO4 := hide hO4
          have cF4 : w4.cell? ⟨R, 17, none⟩ = some (.slice ta tn tc) := (unhide HP4).filters
          have fF4 : w4.frozen? ⟨R, 17, none⟩ = false := (unhide HP4).filters_f
          clear hO4 hg4 hrow cF2 cF3 HP2 HRS2 HBX2
          refine hK.out _ _ trivial (fun hHeld => ?_)
          clear hK K
          simp only [Act.put, List.setIfInBounds_toArray, List.set_cons_zero, List.set_cons_succ]
          refine rtk 9 (h := ?_)
          refine rtk 10 (h := ?_)
          refine rcl 11 (h := fun K hK => ?_)
          go_simp
          refine hK.out _ _ trivial (fun hHeld => ?_)
          clear hK K
          refine wpAnyH_done (by kernel_rfl) ?_ _
          refine NoPanic.normal ?_
          have HRS5 : Hid (RS w0 (w4.setCell ⟨R, 17, none⟩ (.slice sa sn sc)) R st2) := ((unhide HRS4).less (fun g => g = R) rfl (fun g hg => by rw [hXd]; exact .inl hg)).set 17 _ (by decide)
          have HP5 : Hid (Pk (w4.setCell ⟨R, 17, none⟩ (.slice sa sn sc)) R { p with filters := ⟨sa, sn, sc⟩ }) := (unhide HP4).set_filters ⟨sa, sn, sc⟩
          have HBX5 : Hid (BX R isAny w (w4.setCell ⟨R, 17, none⟩ (.slice sa sn sc))) := (unhide HBX4).set 17 _ trivial
          have HO5 : Hid ((w4.setCell ⟨R, 17, none⟩ (.slice sa sn sc)).ownsRow w.heap.size 9 1 (.slice sa sn sc) (k + 1) ((d ++ [x]).map Value.string)) := by
            show World.ownsRow _ _ _ _ _ _ _
            rw [show ((d ++ [x]).map Value.string) = (d.map Value.string) ++ [.string x] from by simp]
            exact owns_bx (unhide HO4) ((BX.refl R isAny w4).set 17 _ trivial) hlt
          have HA5 : Hid (Acc text? st (d ++ [x]) st2) := (unhide HAcc).step text?_shr (unhide HST2) hl0
          have HB5 : Hid (∀ l', st2 = some l' → (k + 1) + l'.length ≤ 65536) := by
            intro l' hl'
            subst hl'
            have h2 := stp_len text?_shr (unhide HST2)
            have h3 := (unhide HB) l rfl
            omega
          have hM : mlen R (w4.setCell ⟨R, 17, none⟩ (.slice sa sn sc)) < mlen R wr := by
            rw [mlen_some (unhide HRS)]
            cases st2 with
            | none => rw [mlen_none (unhide HRS5)]; omega
            | some l' =>
              rw [mlen_some (unhide HRS5)]
              have := stp_len text?_shr (unhide HST2)
              omega
          have hk1 : k + 1 ≤ 65536 := by
            have h3 := (unhide HB) l rfl
            have := List.length_pos_iff.2 hl0
            omega
          have HD5 : Hid ((d ++ [x]).length = k + 1) := by show _ = _; rw [List.length_append, unhide HD]; rfl
          clear HRS4 HP4 HBX4 HO4 cF4 fF4
          go_wp2
          go_roundw
          case rel => exact ⟨d ++ [x], st2, ⟨sa, sn, sc⟩, k + 1, by go_num, hk1, HD5, HB5, HP5, HO5, HA5, HRS5, HBX5⟩
          case measure => exact hM)
    · clear gl
      go_wp2_with fail
      refine (mayCount_any k _).mono ?_
      rintro e wa ⟨rfl, hwa⟩
      obtain rfl := hwa.symm
      clear hwa
      go_wp2_with fail
      refine (must_any R _ none w0 wr (unhide HRS)).mono ?_
      rintro e wb ⟨rfl, h2, hx2⟩
      have H2 := hide h2
      have HX2 := hide hx2
      clear h2 hx2
      go_wp2
      go_end0
      refine ⟨rfl, ⟨ta, tn, tc⟩, d, _, (unhide HPk).bx (unhide HX2), ?_, ?_, unhide H2, (unhide HBX).trans (unhide HX2).any⟩
      · show World.ownsRow _ _ _ _ _ _ _
        rw [unhide HD]
        exact owns_bx (unhide HOwn) (unhide HX2) hlt
      · refine ((unhide HAcc).done (.inl rfl)).bind ((?_ : Stp (mustR (mc d.length)) none () (if mc k then none else none)).bind (Stp.pure _ _))
        rw [unhide HD]
        exact Stp.must _ _
def Listsubs (w0 : World) (R : Nat) (p : Pkv) (st : Option (List Int)) (w : World) (e : Ending) (w' : World) : Prop :=
  e = .returned (.tuple #[]) ∧ ∃ (t : Sl) (d : List Sb) (st' : Option (List Int)), Pk w' R { p with subs := t } ∧ Hid (w'.ownsRow w.heap.size 75 5 t.val d.length (scs d)) ∧ Stp (list? sub?) st d st' ∧ RS w0 w' R st' ∧ BX R isAny w w'
set_option maxHeartbeats 4000000 in
theorem list_subs (R : Nat) (p : Pkv) (st : Option (List Int)) (w0 w : World) (h : RS w0 w R st) (hp : Pk w R p) (hF : p.subs = ⟨none, 0, 0⟩) (hl : ∀ l, st = some l → l.length ≤ 65536) (h8 : p.kind = 8) : Calls Tryz.prog 123 #[.pointer (some ⟨R, 0, none⟩)] w (Listsubs w0 R p st w) := by
  obtain ⟨i0, hi, hz0, hz1, hz2⟩ := info_parts infoSub
  have hlt := h.lt
  have HW0 := h.keep
  have HP := hide hp
  have HS := hide h
  have HL := hide hl
  have HF := hide hF
  clear hp h hl hF
  go_enter Tryz.func123, Tryz.ntmps123
  go_wp2
  go_loopw [3] (fun c0 wr => ∃ (d : List Sb) (st1 : Option (List Int)) (t : Sl) (k : Nat), c0 = .int .i64 k ∧ k ≤ 65536 ∧ Hid (d.length = k) ∧ Hid (∀ l, st1 = some l → k + l.length ≤ 65536) ∧ Hid (Pk wr R { p with subs := t }) ∧ Hid (wr.ownsRow w.heap.size 75 5 t.val k (scs d)) ∧ Hid (Acc sub? st d st1) ∧ Hid (RS w0 wr R st1) ∧ Hid (BX R isAny w wr)) (fun _ wr => mlen R wr)
  case atStart =>
    refine ⟨[], st, ⟨none, 0, 0⟩, 0, rfl, Nat.zero_le _, rfl, fun l hl => by have := (unhide HL) l hl; omega, ?_, World.ownsRow_nil _ _ _ _, Acc.start _ _, unhide HS, BX.refl _ _ _⟩
    show Pk _ _ _
    have e : { p with subs := ⟨none, 0, 0⟩ } = p := by rw [← unhide HF]
    rw [e]
    exact unhide HP
  case round =>
    obtain ⟨d, st1, ⟨ta, tn, tc⟩, k, rfl, hk, HD, HB, HPk, HOwn, HAcc, HRS, HBX⟩ := hrel
    obtain ⟨ao, m, cap, c19, ⟨g1, g2⟩, gl⟩ := (unhide HRS).rest
    unfold maxLen at g2
    have c0 := (unhide HPk).kind
    simp only at c0
    have cF : wr.cell? ⟨R, 16, none⟩ = some (.slice ta tn tc) := (unhide HPk).subs
    rw [h8] at c0
    rcases (unhide HRS).err with ⟨l, rfl, c20⟩ | ⟨rfl, ty, x, c20⟩
    · have hm := gl l rfl
      clear gl
      by_cases hm0 : m = 0
      · subst hm0
        obtain rfl : l = [] := List.length_eq_zero_iff.1 hm
        go_wp2_with fail
        refine (mayCount_any k _).mono ?_
        rintro e wa ⟨rfl, hwa⟩
        obtain rfl := hwa.symm
        clear hwa
        go_wp2_with fail
        refine (must_any R _ (some []) w0 wr (unhide HRS)).mono ?_
        rintro e wb ⟨rfl, h2, hx2⟩
        have H2 := hide h2
        have HX2 := hide hx2
        clear h2 hx2
        go_wp2
        go_end0
        refine ⟨rfl, ⟨ta, tn, tc⟩, d, _, (unhide HPk).bx (unhide HX2), ?_, ?_, unhide H2, (unhide HBX).trans (unhide HX2).any⟩
        · show World.ownsRow _ _ _ _ _ _ _
          rw [unhide HD]
          exact owns_bx (unhide HOwn) (unhide HX2) hlt
        · refine ((unhide HAcc).done (.inr rfl)).bind ((?_ : Stp (mustR (mc d.length)) (some []) () (if mc k then (some []) else none)).bind (Stp.pure _ _))
          rw [unhide HD]
          exact Stp.must _ _
      · have hl0 : l ≠ [] := fun e => hm0 (by rw [← hm, e]; rfl)
        have hbd := bel_drew wr
        obtain ⟨X, hXd⟩ : ∃ X : Nat → Prop, X = fun g => g = R ∨ some g = (Value.slice ta tn tc).ownBlock := ⟨_, rfl⟩
        have HRSd : Hid (RSX w0 wr.drew R X (some l)) := by
          subst hXd
          exact ((unhide HRS).below hbd).good _ ⟨.inl rfl, fun g hg => by
            rcases hg with rfl | hg
            · exact Nat.lt_of_lt_of_le hlt (unhide HBX).size
            · exact ((unhide HOwn).lt g hg.symm).2⟩
        have HPd := hide ((unhide HPk).below hbd)
        have HBXd : Hid (BX R isAny w wr.drew) := (unhide HBX).trans (BX.of_below hbd (unhide HRS).lt)
        have HOd : Hid (wr.drew.ownsRow w.heap.size 75 5 (.slice ta tn tc) k (scs d)) := owns_below (unhide HOwn) hbd
        clear hbd
        go_wp2_with fail
        refine wp_region_noPanic ?_
        refine wp_region_held_drew (S := fun _ => True) (by kernel_rfl) trivial (fun hHeld => ?_)
        refine rtk 0 (h := ?_)
        refine rtk 1 (h := ?_)
        refine rtk 2 (h := ?_)
        refine rtk 3 (h := ?_)
        refine rtk 5 (h := ?_)
        refine wpAnyH_ready (rs := [4, 6]) (by kernel_rfl) (by simp) ?_
        refine rac (h := fun K hK => ?ra) (hs := (rac (h := fun K hK => ?rb) (hs := AllReadyH.nil)))
        case' ra =>
          go_simp
          refine hK.out _ _ trivial (fun hHeld => ?_)
          clear hK K
          refine rcl 6 (h := fun K hK => ?_)
          go_simp
          refine (sub_anyX R X (some l) w0 _ (unhide HRSd)).mono ?_
          rintro e w2 ⟨x, st2, rfl, hs2, h2, hx2⟩
          have cF2 : w2.cell? ⟨R, 16, none⟩ = some (.slice ta tn tc) := (hx2.cell 16 (by unfold isRE; omega)).trans cF
          have hs2l : w.heap.size ≤ w2.heap.size := Nat.le_trans (unhide HBX).size hx2.size
          have HP2 := hide ((unhide HPd).bx hx2)
          have HRS2 := hide h2
          have HST2 := hide hs2
          have HBX2 : Hid (BX R isAny w w2) := (unhide HBXd).trans hx2.any
          have HO2 : Hid (w2.ownsRow w.heap.size 75 5 (.slice ta tn tc) k (scs d)) := owns_bx (unhide HOd) hx2 hlt
          have hR2 : R < w2.heap.size := Nat.lt_of_lt_of_le hlt hs2l
          have cF3 : (w2.alloc (.cells #[.string x.filter, .int .i64 x.qos, .bool x.nolocal, .bool x.aspub, .int .i64 x.handling] 75)).cell? ⟨R, 16, none⟩ = some (.slice ta tn tc) := (World.cell?_alloc_lt _ _ ⟨R, 16, none⟩ hR2).trans cF2
          clear hx2 h2 hs2
          refine hK.out _ _ trivial (fun hHeld => ?_)
          clear hK K
          refine rcl 7 (h := fun K hK => ?_)
          go_simp
          refine hK.out _ _ trivial (fun hHeld => ?_)
          clear hK K
        case' rb =>
          go_simp
          refine (sub_anyX R X (some l) w0 _ (unhide HRSd)).mono ?_
          rintro e w2 ⟨x, st2, rfl, hs2, h2, hx2⟩
          have cF2 : w2.cell? ⟨R, 16, none⟩ = some (.slice ta tn tc) := (hx2.cell 16 (by unfold isRE; omega)).trans cF
          have hs2l : w.heap.size ≤ w2.heap.size := Nat.le_trans (unhide HBX).size hx2.size
          have HP2 := hide ((unhide HPd).bx hx2)
          have HRS2 := hide h2
          have HST2 := hide hs2
          have HBX2 : Hid (BX R isAny w w2) := (unhide HBXd).trans hx2.any
          have HO2 : Hid (w2.ownsRow w.heap.size 75 5 (.slice ta tn tc) k (scs d)) := owns_bx (unhide HOd) hx2 hlt
          have hR2 : R < w2.heap.size := Nat.lt_of_lt_of_le hlt hs2l
          have cF3 : (w2.alloc (.cells #[.string x.filter, .int .i64 x.qos, .bool x.nolocal, .bool x.aspub, .int .i64 x.handling] 75)).cell? ⟨R, 16, none⟩ = some (.slice ta tn tc) := (World.cell?_alloc_lt _ _ ⟨R, 16, none⟩ hR2).trans cF2
          clear hx2 h2 hs2
          refine hK.out _ _ trivial (fun hHeld => ?_)
          clear hK K
          refine wpAnyH_ready (rs := [4, 7]) (by kernel_rfl) (by simp) ?_
          refine rac (h := fun K hK => ?rc) (hs := (rac (h := fun K hK => ?rd) (hs := AllReadyH.nil)))
          case' rc =>
            go_simp
            refine hK.out _ _ trivial (fun hHeld => ?_)
            clear hK K
            refine rcl 7 (h := fun K hK => ?_)
            go_simp
            refine hK.out _ _ trivial (fun hHeld => ?_)
            clear hK K
          case' rd =>
            go_simp
            refine hK.out _ _ trivial (fun hHeld => ?_)
            clear hK K
            refine rcl 4 (h := fun K hK => ?_)
            go_simp
            refine hK.out _ _ trivial (fun hHeld => ?_)
            clear hK K
        all_goals (
          refine rcl 8 (h := fun K hK => ?_)
          refine step_append_run (Z := fun v' w' => w'.ownsRow w.heap.size 75 5 v' (k + 1) ((scs d) ++ x.cells) ∧ (w2.alloc (.cells #[.string x.filter, .int .i64 x.qos, .bool x.nolocal, .bool x.aspub, .int .i64 x.handling] 75)).grownBy w' (Value.slice ta tn tc).ownBlock) rfl _ _ 27 rfl (.slice ta tn tc) (.slice (some ⟨w2.heap.size, 0, none⟩) 1 1) rfl rfl ?hr ?_
          case hr =>
            obtain ⟨v4, w4, h1, h2, h3, _⟩ := run_append_own (P := Tryz.prog) (w := (w2.alloc (.cells #[.string x.filter, .int .i64 x.qos, .bool x.nolocal, .bool x.aspub, .int .i64 x.handling] 75))) w.heap.size 27 27 75 i0 _ 5 40 Tryz.underlying27 hi hz0 hz1 hz2 rfl (by decide) (.slice ta tn tc) k _ ((unhide HO2).alloc _) ⟨w2.heap.size, 0, none⟩ 1 1 x.cells rfl (five_cell _ _ _ _ _ _ _) (five_one _) (by unfold maxLen; omega) (by omega) (by simp; omega)
            exact ⟨v4, w4, h1, h2, h3⟩
          rintro v4 w4 ⟨hO4, hg4⟩
          have hrow : ∀ g, (Value.slice ta tn tc).ownBlock = some g → w.heap.size ≤ g ∧ g < wr.heap.size := fun g hg => (unhide HOwn).lt g hg
          have hrR : (Value.slice ta tn tc).ownBlock ≠ some R := fun e => by have := (hrow R e).1; omega
          have HP4 : Hid (Pk w4 R { p with subs := ⟨ta, tn, tc⟩ }) := ((unhide HP2).below ((Below.refl _ _).alloc (Nat.le_refl _) _)).grown hg4 hrR
          have h0w : w0.heap.size ≤ w.heap.size := HW0.size
          have HRS4 : Hid (RSX w0 w4 R X st2) := ((unhide HRS2).below ((Below.refl _ _).alloc (Nat.le_refl _) _)).grown hg4 (fun g hg => by rw [hXd]; exact .inr hg.symm) hrR (fun g hg => Nat.le_trans h0w (hrow g hg).1)
          have HBX4 : Hid (BX R isAny w w4) := ((unhide HBX2).trans (BX.of_below ((Below.refl _ _).alloc (Nat.le_refl _) _) hR2)).grown hg4 (fun g hg => (hrow g hg).1) hlt
          obtain ⟨⟨sa, sn, sc⟩, hv4, _⟩ := owns_sl hO4
          have hv4 : v4 = .slice sa sn sc := hv4
          subst hv4
          have HO4 := hide hO4
          have cF4 : w4.cell? ⟨R, 16, none⟩ = some (.slice ta tn tc) := (unhide HP4).subs
          have fF4 : w4.frozen? ⟨R, 16, none⟩ = false := (unhide HP4).subs_f
          clear hO4 hg4 hrow cF2 cF3 HP2 HRS2 HBX2
          refine hK.out _ _ trivial (fun hHeld => ?_)
          clear hK K
          simp only [Act.put, List.setIfInBounds_toArray, List.set_cons_zero, List.set_cons_succ]
          refine rtk 9 (h := ?_)
          refine rtk 10 (h := ?_)
          refine rcl 11 (h := fun K hK => ?_)
          go_simp
          refine hK.out _ _ trivial (fun hHeld => ?_)
          clear hK K
          refine wpAnyH_done (by kernel_rfl) ?_ _
          refine NoPanic.normal ?_
          have HRS5 : Hid (RS w0 (w4.setCell ⟨R, 16, none⟩ (.slice sa sn sc)) R st2) := ((unhide HRS4).less (fun g => g = R) rfl (fun g hg => by rw [hXd]; exact .inl hg)).set 16 _ (by decide)
          have HP5 : Hid (Pk (w4.setCell ⟨R, 16, none⟩ (.slice sa sn sc)) R { p with subs := ⟨sa, sn, sc⟩ }) := (unhide HP4).set_subs ⟨sa, sn, sc⟩
          have HBX5 : Hid (BX R isAny w (w4.setCell ⟨R, 16, none⟩ (.slice sa sn sc))) := (unhide HBX4).set 16 _ trivial
          have HO5 : Hid ((w4.setCell ⟨R, 16, none⟩ (.slice sa sn sc)).ownsRow w.heap.size 75 5 (.slice sa sn sc) (k + 1) (scs (d ++ [x]))) := by
            show World.ownsRow _ _ _ _ _ _ _
            rw [show (scs (d ++ [x])) = (scs d) ++ x.cells from by rw [scs_app]]
            exact owns_bx (unhide HO4) ((BX.refl R isAny w4).set 16 _ trivial) hlt
          have HA5 : Hid (Acc sub? st (d ++ [x]) st2) := (unhide HAcc).step sub?_shr (unhide HST2) hl0
          have HB5 : Hid (∀ l', st2 = some l' → (k + 1) + l'.length ≤ 65536) := by
            intro l' hl'
            subst hl'
            have h2 := stp_len sub?_shr (unhide HST2)
            have h3 := (unhide HB) l rfl
            omega
          have hM : mlen R (w4.setCell ⟨R, 16, none⟩ (.slice sa sn sc)) < mlen R wr := by
            rw [mlen_some (unhide HRS)]
            cases st2 with
            | none => rw [mlen_none (unhide HRS5)]; omega
            | some l' =>
              rw [mlen_some (unhide HRS5)]
              have := stp_len sub?_shr (unhide HST2)
              omega
          have hk1 : k + 1 ≤ 65536 := by
            have h3 := (unhide HB) l rfl
            have := List.length_pos_iff.2 hl0
            omega
          have HD5 : Hid ((d ++ [x]).length = k + 1) := by show _ = _; rw [List.length_append, unhide HD]; rfl
          clear HRS4 HP4 HBX4 HO4 cF4 fF4
          go_wp2
          go_roundw
          case rel => exact ⟨d ++ [x], st2, ⟨sa, sn, sc⟩, k + 1, by go_num, hk1, HD5, HB5, HP5, HO5, HA5, HRS5, HBX5⟩
          case measure => exact hM)
    · clear gl
      go_wp2_with fail
      refine (mayCount_any k _).mono ?_
      rintro e wa ⟨rfl, hwa⟩
      obtain rfl := hwa.symm
      clear hwa
      go_wp2_with fail
      refine (must_any R _ none w0 wr (unhide HRS)).mono ?_
      rintro e wb ⟨rfl, h2, hx2⟩
      have H2 := hide h2
      have HX2 := hide hx2
      clear h2 hx2
      go_wp2
      go_end0
      refine ⟨rfl, ⟨ta, tn, tc⟩, d, _, (unhide HPk).bx (unhide HX2), ?_, ?_, unhide H2, (unhide HBX).trans (unhide HX2).any⟩
      · show World.ownsRow _ _ _ _ _ _ _
        rw [unhide HD]
        exact owns_bx (unhide HOwn) (unhide HX2) hlt
      · refine ((unhide HAcc).done (.inl rfl)).bind ((?_ : Stp (mustR (mc d.length)) none () (if mc k then none else none)).bind (Stp.pure _ _))
        rw [unhide HD]
        exact Stp.must _ _
end Go.Proofs.YtpoeakillimibaaGreatDoor.K
/- Proved here: dovecoteref0.EqSubs tells whether two lists of subscriptions are one. Helper contract. -/
namespace Go.Proofs.YtpoeakillimibaaGreatDoor.K
open Go.RowKit
set_option maxRecDepth 100000

abbrev sb0 : Sb := ⟨⟨#[]⟩, 0, false, false, 0⟩
def SbAt (w : World) (b off : Nat) (l : List Sb) : Prop := ∀ k, k < l.length → w.cell? ⟨b, off + k * 5, none⟩ = some (.string (l.getD k sb0).filter) ∧ w.cell? ⟨b, off + k * 5 + 1, none⟩ = some (.int .i64 (l.getD k sb0).qos) ∧ w.cell? ⟨b, off + k * 5 + 2, none⟩ = some (.bool (l.getD k sb0).nolocal) ∧ w.cell? ⟨b, off + k * 5 + 3, none⟩ = some (.bool (l.getD k sb0).aspub) ∧ w.cell? ⟨b, off + k * 5 + 4, none⟩ = some (.int .i64 (l.getD k sb0).handling)
/-- the value reads as the list -/
def Sbs (w : World) (v : Value) (l : List Sb) : Prop := ∃ ao cap, v = .slice ao l.length cap ∧ (l.length ≤ cap ∧ cap ≤ maxLen) ∧ (l = [] ∨ ∃ b off, ao = some ⟨b, off, none⟩ ∧ SbAt w b off l)
theorem Tryz.eqgB : Tryz.prog.eqGuardType Tryz.prog.depth 75 = false := by kernel_rfl
theorem Tryz.stoodB : Tryz.prog.stoodInHeld 75 = false := by kernel_rfl
theorem Tryz.undB : Tryz.prog.underlying 75 = some (.struct (Tryz.prog.fieldsOf 75)) := by kernel_rfl
def sameB (p q : Sb) : Bool := (p.filter.toList == q.filter.toList && p.qos == q.qos && p.nolocal == q.nolocal && p.aspub == q.aspub && p.handling == q.handling)
theorem neqB (f f' : ByteArray) (q q' h h' : Int) (n n' a a' : Bool) (w : World) : (binOp .neq 75 (.agg #[.string f, .int .i64 q, .bool n, .bool a, .int .i64 h]) (.agg #[.string f', .int .i64 q', .bool n', .bool a', .int .i64 h'])).run Tryz.prog w = .ok (.bool (!(sameB ⟨f, q, n, a, h⟩ ⟨f', q', n', a', h'⟩))) w := by
  rw [run_neq_struct, run_equalIn_struct w 9999 75 _ _ Tryz.undB Tryz.stoodB]
  rw [show Tryz.prog.fieldsOf 75 = _ from rfl]
  simp [Program.fieldsOf, Tryz.underlying75, Op.eqFields, go_sem]
  unfold sameB
  by_cases h1 : f.toList = f'.toList
  · by_cases h2 : q = q'
    · by_cases h3 : n = n'
      · by_cases h4 : a = a'
        · by_cases h5 : h = h'
          · simp [h1, h2, h3, h4, h5]
          · simp [h1, h2, h3, h4, h5]
        · simp [h1, h2, h3, h4]
      · simp [h1, h2, h3]
    · simp [h1, h2]
  · simp [h1]
theorem sameB_iff (p q : Sb) : sameB p q = true ↔ p = q := by
  obtain ⟨a, b, c, d, e⟩ := p
  obtain ⟨a', b', c', d', e'⟩ := q
  unfold sameB
  constructor
  · intro h
    simp only [Bool.and_eq_true, beq_iff_eq] at h
    obtain ⟨⟨⟨⟨h1, h2⟩, h3⟩, h4⟩, h5⟩ := h
    rw [text_ext h1, h2, h3, h4, h5]
  · rintro h
    cases h
    simp
set_option maxHeartbeats 4000000 in
theorem eqb_core (ba oa bb ob ca cb : Nat) (l m : List Sb) (len : Nat) (w : World) (hl : l.length = len) (hm : m.length = len) (hmx : len ≤ 1000000000) (ha : SbAt w ba oa l) (hb : SbAt w bb ob m) :
    Calls Tryz.prog 67 #[.slice (some ⟨ba, oa, none⟩) len ca, .slice (some ⟨bb, ob, none⟩) len cb] w fun e w' => (∃ b, e = .returned (.bool b) ∧ (b = true ↔ ∀ j, j < len → l.getD j sb0 = m.getD j sb0)) ∧ ∃ k, w' = w.drewN k := by
  have HL := hide hl
  have HM := hide hm
  have HA := hide ha
  have HB := hide hb
  clear hl hm ha hb
  go_enter Tryz.func67, Tryz.ntmps67
  go_wp2
  go_loopw [5] (fun i wr => ∃ k q : Nat, k ≤ len ∧ i = .int .i64 k ∧ wr = w.drewN q ∧ Hid (∀ j, j < k → l.getD j sb0 = m.getD j sb0)) (fun i _ => len - (intOf i).toNat)
  case atStart => exact ⟨0, 0, Nat.zero_le _, rfl, rfl, fun j hj => absurd hj (Nat.not_lt_zero j)⟩
  case round =>
    obtain ⟨k, q, hk, rfl, rfl, HALL⟩ := hrel
    by_cases hlt : k < len
    · obtain ⟨h0, h1, h2, h3, h4⟩ := (unhide HA) k (by rw [unhide HL]; exact hlt)
      obtain ⟨g0, g1, g2, g3, g4⟩ := (unhide HB) k (by rw [unhide HM]; exact hlt)
      obtain ⟨x1, x2, x3, x4, x5, hp⟩ : ∃ a b c d e, l.getD k sb0 = ⟨a, b, c, d, e⟩ := ⟨_, _, _, _, _, rfl⟩
      obtain ⟨y1, y2, y3, y4, y5, hp'⟩ : ∃ a b c d e, m.getD k sb0 = ⟨a, b, c, d, e⟩ := ⟨_, _, _, _, _, rfl⟩
      rw [hp] at h0 h1 h2 h3 h4
      rw [hp'] at g0 g1 g2 g3 g4
      simp only at h0 h1 h2 h3 h4 g0 g1 g2 g3 g4
      have HP := hide hp
      have HP' := hide hp'
      clear hp hp'
      have qg := Tryz.eqgB
      have qn := fun W => neqB x1 y1 x2 y2 x5 y5 x3 y3 x4 y4 W
      generalize hsb : sameB ⟨x1, x2, x3, x4, x5⟩ ⟨y1, y2, y3, y4, y5⟩ = sb at qn
      have HSB := hide hsb
      clear hsb
      cases sb
      · have HNE : Hid (l.getD k sb0 ≠ m.getD k sb0) := fun e => by
          rw [unhide HP, unhide HP'] at e
          have := (sameB_iff _ _).2 e
          rw [unhide HSB] at this
          cases this
        go_wp2
        go_quiet (fail)
        go_wp2
        go_ret
        refine ⟨⟨_, rfl, ?_⟩, q + nq, drewN_drewN _ _ _⟩
        constructor
        · intro h; cases h
        · intro h; exact absurd (h k hlt) (unhide HNE)
      · have HE : Hid (l.getD k sb0 = m.getD k sb0) := by
          show _ = _
          rw [unhide HP, unhide HP']
          exact (sameB_iff _ _).1 (unhide HSB)
        go_wp2
        go_quiet (fail)
        go_wp2
        go_roundw
        case rel => exact ⟨k + 1, _, by omega, by go_num, rfl, fun j hj => by
          rcases Nat.lt_succ_iff_lt_or_eq.1 hj with h | h
          · exact (unhide HALL) j h
          · rw [h]; exact unhide HE⟩
        case measure => simp [intOf]; omega
    · go_wp2
      go_ret
      exact ⟨⟨_, rfl, fun _ j hj => (unhide HALL) j (by omega), fun _ => rfl⟩, _, rfl⟩
theorem eqb_len (ao bo : Option Addr) (n m ca cb : Nat) (w : World) (h : n ≠ m) :
    Calls Tryz.prog 67 #[.slice ao n ca, .slice bo m cb] w fun e w' => e = .returned (.bool false) ∧ w' = w := by
  have h1 : ((n : Int) == (m : Int)) = false := beq_eq_false_iff_ne.2 (by omega)
  go_enter Tryz.func67, Tryz.ntmps67
  go_wp2
  go_ret
  exact ⟨rfl, rfl⟩
theorem eqb_nil (ao bo : Option Addr) (ca cb : Nat) (w : World) :
    Calls Tryz.prog 67 #[.slice ao 0 ca, .slice bo 0 cb] w fun e w' => e = .returned (.bool true) ∧ w' = w := by
  go_enter Tryz.func67, Tryz.ntmps67
  go_wp2
  refine wp_loop_rounds 1 ?_
  rw [rounds_succ]
  go_wp2
  go_ret
  exact ⟨rfl, rfl⟩
theorem sb_ext {l m : List Sb} (hl : l.length = m.length) (h : ∀ j, j < l.length → l.getD j sb0 = m.getD j sb0) : l = m := by
  apply List.ext_getElem hl
  intro i h1 h2
  have := h i h1
  rw [List.getD_eq_getElem?_getD, List.getD_eq_getElem?_getD, List.getElem?_eq_getElem h1, List.getElem?_eq_getElem h2] at this
  exact this
theorem eqb_any (va vb : Value) (l m : List Sb) (w : World) (ha : Sbs w va l) (hb : Sbs w vb m) (hmx : l.length ≤ 1000000000) :
    Calls Tryz.prog 67 #[va, vb] w fun e w' => (∃ b, e = .returned (.bool b) ∧ (b = true ↔ l = m)) ∧ ∃ k, w' = w.drewN k := by
  obtain ⟨ao, ca, rfl, _, ha⟩ := ha
  obtain ⟨bo, cb, rfl, _, hb⟩ := hb
  by_cases hl : l.length = m.length
  · rcases ha with rfl | ⟨ba, oa, rfl, hca⟩
    · obtain rfl : m = [] := List.length_eq_zero_iff.1 hl.symm
      refine (eqb_nil _ _ _ _ _).mono ?_
      rintro e w' ⟨rfl, rfl⟩
      exact ⟨⟨true, rfl, by simp⟩, 0, rfl⟩
    · rcases hb with rfl | ⟨bb, ob, rfl, hcb⟩
      · obtain rfl : l = [] := List.length_eq_zero_iff.1 hl
        refine (eqb_nil _ _ _ _ _).mono ?_
        rintro e w' ⟨rfl, rfl⟩
        exact ⟨⟨true, rfl, by simp⟩, 0, rfl⟩
      · rw [← hl]
        refine (eqb_core ba oa bb ob ca cb l m l.length w rfl hl.symm hmx hca hcb).mono ?_
        rintro e w' ⟨⟨b, rfl, hbb⟩, k, rfl⟩
        exact ⟨⟨b, rfl, hbb.trans ⟨fun h => sb_ext hl h, fun h j _ => by rw [h]⟩⟩, k, rfl⟩
  · refine (eqb_len ao bo l.length m.length ca cb w hl).mono ?_
    rintro e w' ⟨rfl, rfl⟩
    exact ⟨⟨false, rfl, by constructor; (intro h; cases h); (intro h; exact absurd (by rw [h]) hl)⟩, 0, rfl⟩
end Go.Proofs.YtpoeakillimibaaGreatDoor.K
/- Proved here: worlds in which blocks of some types may hold other cells, as many as before, and nothing else has turned (SF); rows of one's own there; append onto them. Helpers that name no function. -/
namespace Go.Proofs.YtpoeakillimibaaGreatDoor.K
open Go.RowKit

/-- nothing below B has turned; blocks of types of which T says so may hold other cells, as many as before; all other blocks are as they were -/
structure SF (B : Nat) (T : TypeId → Prop) (w w' : World) : Prop where
  os : w'.os = w.os
  tape : w'.tape = w.tape
  output : w'.output = w.output
  size : w.heap.size ≤ w'.heap.size
  low : ∀ k : Nat, k < B → w'.heap[k]? = w.heap[k]?
  same : ∀ (k : Nat) (cur : Array Value) (e : TypeId), w.heap[k]? = some (Obj.cells cur e (0, 0)) → ¬ T e → w'.heap[k]? = some (Obj.cells cur e (0, 0))
  shp : ∀ (k : Nat) (cur : Array Value) (e : TypeId), w.heap[k]? = some (Obj.cells cur e (0, 0)) → ∃ cur', w'.heap[k]? = some (Obj.cells cur' e (0, 0)) ∧ cur'.size = cur.size
theorem SF.refl (B : Nat) (T : TypeId → Prop) (w : World) : SF B T w w := ⟨rfl, rfl, rfl, Nat.le_refl _, fun _ _ => rfl, fun _ _ _ h _ => h, fun _ cur _ h => ⟨cur, h, rfl⟩⟩
theorem SF.trans {B : Nat} {T : TypeId → Prop} {a b c : World} (h : SF B T a b) (k : SF B T b c) : SF B T a c :=
  ⟨k.os.trans h.os, k.tape.trans h.tape, k.output.trans h.output, Nat.le_trans h.size k.size, fun i hi => (k.low i hi).trans (h.low i hi), fun i cur e h1 h2 => k.same i cur e (h.same i cur e h1 h2) h2, fun i cur e h1 => by
    obtain ⟨cur1, h2, h3⟩ := h.shp i cur e h1
    obtain ⟨cur2, h4, h5⟩ := k.shp i cur1 e h2
    exact ⟨cur2, h4, h5.trans h3⟩⟩
theorem SF.weak {B : Nat} {T T' : TypeId → Prop} {a b : World} (h : SF B T a b) (ht : ∀ e, T e → T' e) : SF B T' a b := ⟨h.os, h.tape, h.output, h.size, h.low, fun k cur e h1 h2 => h.same k cur e h1 (fun x => h2 (ht e x)), h.shp⟩
theorem SF.below {B : Nat} {T : TypeId → Prop} {a b : World} (h : SF B T a b) : Below B a b := ⟨h.os, h.tape, h.output, h.size, h.low⟩
theorem SF.grow {B : Nat} {T : TypeId → Prop} {a b : World} (hs : b.heap.size ≥ a.heap.size) (h1 : b.os = a.os) (h2 : b.tape = a.tape) (h3 : b.output = a.output) (hB : B ≤ a.heap.size) (h : ∀ k, k < a.heap.size → b.heap[k]? = a.heap[k]?) : SF B T a b :=
  ⟨h1, h2, h3, hs, fun k hk => h k (by omega), fun k cur e hk _ => (h k (Array.getElem?_eq_some_iff.1 hk).1).trans hk, fun k cur e hk => ⟨cur, (h k (Array.getElem?_eq_some_iff.1 hk).1).trans hk, rfl⟩⟩
theorem SF.bel {B : Nat} {T : TypeId → Prop} {a b : World} (h : Below a.heap.size a b) (hB : B ≤ a.heap.size) : SF B T a b := SF.grow h.size h.os h.tape h.output hB h.block
theorem SF.set {B : Nat} {T : TypeId → Prop} {a b : World} (h : SF B T a b) (g j : Nat) (u : Value) (hg : B ≤ g) (cur : Array Value) (e : TypeId) (hb : b.heap[g]? = some (Obj.cells cur e (0, 0))) (ht : T e) : SF B T a (b.setCell ⟨g, j, none⟩ u) :=
  h.trans ⟨rfl, rfl, rfl, by simp [World.setCell], fun k hk => Below.heap_setCell _ _ _ _ (by show k ≠ g; omega), fun k cur' e' h1 h2 => by
    by_cases hk : k = g
    · subst hk
      rw [hb] at h1
      cases h1
      exact absurd ht h2
    · exact (Below.heap_setCell _ _ _ _ hk).trans h1, fun k cur' e' h1 => by
    by_cases hk : k = g
    · subst hk
      refine ⟨cur'.setIfInBounds j u, ?_, by simp⟩
      unfold World.setCell
      simp [Array.getElem?_modify, h1]
    · exact ⟨cur', (Below.heap_setCell _ _ _ _ hk).trans h1, rfl⟩⟩
/-- a row of one's own, whatever it holds -/
def OwnE (w : World) (B : Nat) (e : TypeId) (s : Nat) (v : Value) (n : Nat) : Prop := ∃ xs, w.ownsRow B e s v n xs
theorem OwnE.sf {w w' : World} {B : Nat} {e : TypeId} {s : Nat} {v : Value} {n : Nat} {T : TypeId → Prop} (h : OwnE w B e s v n) (k : SF B T w w') : OwnE w' B e s v n := by
  obtain ⟨xs, h1, h2⟩ := h
  rcases h2 with h2 | ⟨g, cap, cur, rfl, hB, hg, h3, h4, h5, h6⟩
  · exact ⟨xs, h1, .inl h2⟩
  · obtain ⟨cur', k1, k2⟩ := k.shp g cur e hg
    refine ⟨cur'.toList.take (n * s), ?_, .inr ⟨g, cap, cur', rfl, hB, k1, h3, h4, k2.trans h5, rfl⟩⟩
    rw [List.length_take, Array.length_toList, k2, h5]
    exact Nat.min_eq_left (Nat.mul_le_mul_right _ h3)
theorem owns_sf {w w' : World} {B : Nat} {e : TypeId} {s : Nat} {v : Value} {n : Nat} {xs : List Value} {T : TypeId → Prop} (h : w.ownsRow B e s v n xs) (k : SF B T w w') (ht : ¬ T e) : w'.ownsRow B e s v n xs := by
  refine ⟨h.1, ?_⟩
  rcases h.2 with h2 | ⟨g, cap, cur, rfl, hB, hg, rest⟩
  · exact .inl h2
  · exact .inr ⟨g, cap, cur, rfl, hB, k.same g cur e hg ht, rest⟩
theorem OwnE.cell {w : World} {B : Nat} {e : TypeId} {s g n cap : Nat} (h : OwnE w B e s (.slice (some ⟨g, 0, none⟩) n cap) n) (i : Nat) (hi : i < n * s) : (∃ v, w.cell? ⟨g, i, none⟩ = some v) ∧ w.frozen? ⟨g, i, none⟩ = false := by
  obtain ⟨xs, h⟩ := h
  have hl : xs.length = n * s := h.1
  exact ⟨⟨_, by rw [h.cellAt i (by omega), List.getElem?_eq_getElem (by omega)]⟩, h.frozenAt i⟩
theorem OwnE.blk {w : World} {B : Nat} {e : TypeId} {s g n cap : Nat} (h : OwnE w B e s (.slice (some ⟨g, 0, none⟩) n cap) n) : B ≤ g ∧ ∃ cur, w.heap[g]? = some (Obj.cells cur e (0, 0)) := by
  obtain ⟨xs, h1, h2⟩ := h
  rcases h2 with ⟨h2, _⟩ | ⟨g', cap', cur, e', hB, hg, _⟩
  · cases h2
  · cases e'
    exact ⟨hB, cur, hg⟩
/-- append of one onto a row of one's own -/
theorem app_sf {B : Nat} {T : TypeId → Prop} (w : World) (t ty e : TypeId) (i : TypeInfo) (z : Value) (size bytes : Nat) (ht : Tryz.prog.underlying t = some (.slice e)) (hi : Tryz.prog.info? e = some i) (hz : i.zero = some z) (hsize : i.size = size) (hby : i.bytes = bytes) (hzs : z.cells.size = size) (hsz : 0 < size)
    (v : Value) (n : Nat) (hown : OwnE w B e size v n) (a : Addr) (c : Nat) (news : List Value) (hl : news.length = 1 * size) (hnews : ∀ j u, news[j]? = some u → w.cell? (a.add j) = some u) (h1 : ∀ u ∈ news, u.oneCell' = true) (hn : n ≤ 1000000) (hb : bytes ≤ 1000) (hB : B ≤ w.heap.size) (hT : T e) :
    ∃ v' w', (Builtin.append_ #[t, t] ty #[v, .slice (some a) 1 c]).run Tryz.prog w = .ok v' w' ∧ SF B T w w' := by
  subst hsize
  subst hby
  have hbytes : (n + 1) * i.bytes ≤ 140737488355328 := Nat.le_trans (Nat.mul_le_mul (show n + 1 ≤ 1000001 by omega) hb) (by decide)
  obtain ⟨xs, hown⟩ := hown
  rcases hown.2 with ⟨rfl, rfl⟩ | ⟨g, cap, cur, rfl, hbg, hg, hnc, hcm, hcs, htake⟩
  · obtain ⟨v', w', k1, k2, k3, _⟩ := run_append_own (P := Tryz.prog) (w := w) B t ty e i z i.size i.bytes ht hi hz rfl rfl hzs hsz _ 0 xs hown a 1 c news hl hnews h1 (by unfold maxLen; omega) hbytes hB
    exact ⟨v', w', k1, SF.grow k3.size k3.os k3.tape k3.output hB (fun k hk => k3.block k hk (by simp [Value.ownBlock]))⟩
  · by_cases hroom : n + 1 ≤ cap
    · have hfit : n * i.size + news.length ≤ cur.size := by rw [hl, hcs, ← Nat.add_mul]; exact Nat.mul_le_mul_right _ hroom
      have hr := run_append_room (P := Tryz.prog) w t ty e i ht hi g n cap cur hg a 1 c news hl hnews h1 hroom hfit
      refine ⟨_, _, hr, ⟨rfl, rfl, rfl, by simp, fun k hk => setRow_other w g k _ (by omega), fun k cur' e' h3 h4 => ?_, fun k cur' e' h3 => ?_⟩⟩
      · by_cases hk : k = g
        · subst hk
          rw [hg] at h3
          cases h3
          exact absurd hT h4
        · exact (setRow_other w g k _ hk).trans h3
      · by_cases hk : k = g
        · subst hk
          rw [hg] at h3
          cases h3
          refine ⟨_, setRow_heap w k cur _ e _ hg, ?_⟩
          simp only [List.size_toArray, List.length_append, List.length_take, List.length_drop, Array.length_toList]
          omega
        · exact ⟨cur', (setRow_other w g k _ hk).trans h3, rfl⟩
    · have holds : ∀ j u, xs[j]? = some u → w.cell? ((⟨g, 0, none⟩ : Addr).add j) = some u := hown.cells (g := g) rfl
      have hr := run_append_grow (P := Tryz.prog) w t ty e i z ht hi hz ⟨g, 0, none⟩ n cap xs hown.1 holds a 1 c news hl hnews (by omega) (by omega) (growslice_fits (by omega) hbytes)
      exact ⟨_, _, hr, SF.grow (by simp) rfl rfl rfl hB (fun k hk => heap_alloc_old w.drew _ hk)⟩
end Go.Proofs.YtpoeakillimibaaGreatDoor.K
/- Proved here: dovecotelaw0's Numbers, Strings, Props, Subs, Wills and Packet, handed rows of the caller's own, write into these alone. Helper contracts. -/
namespace Go.Proofs.YtpoeakillimibaaGreatDoor.K
open Go.RowKit
set_option maxRecDepth 100000

/-- .. and the block g is a row of the type e that may turn -/
def SFg (B : Nat) (T : TypeId → Prop) (w w' : World) (g : Nat) (e : TypeId) : Prop := SF B T w w' ∧ B ≤ g ∧ T e ∧ ∃ cur, w'.heap[g]? = some (Obj.cells cur e (0, 0))
theorem SFg.set {B : Nat} {T : TypeId → Prop} {w w' : World} {g : Nat} {e : TypeId} (h : SFg B T w w' g e) (j : Nat) (u : Value) : SFg B T w (w'.setCell ⟨g, j, none⟩ u) g e := by
  obtain ⟨h1, h2, h3, cur, h4⟩ := h
  refine ⟨h1.set g j u h2 cur e h4 h3, h2, h3, cur.setIfInBounds j u, ?_⟩
  unfold World.setCell
  simp [Array.getElem?_modify, h4]
set_option maxHeartbeats 2000000 in
theorem numbers_sp (B : Nat) (v : Value) (n : Nat) (w : World) (hB : B ≤ w.heap.size) (hn : n ≤ 1000000) (h : OwnE w B 3 1 v n) : Calls Tryz.prog 78 #[v] w fun e w' => e = .returned (.tuple #[]) ∧ SF B (fun t => t = 3) w w' := by
  obtain ⟨i0, hi, hz0, hz1, hz2⟩ := info_parts infoInt
  have hv : (v = .slice none 0 0 ∧ n = 0) ∨ ∃ g cap, v = .slice (some ⟨g, 0, none⟩) n cap := by
    obtain ⟨xs, h⟩ := h
    rcases h.2 with h1 | ⟨g, cap, _, h1, _⟩
    · exact .inl h1
    · exact .inr ⟨g, cap, h1⟩
  rcases hv with ⟨rfl, rfl⟩ | ⟨g, cap, rfl⟩
  · clear h
    go_enter Tryz.func78, Tryz.ntmps78
    go_wp2
    refine wp_loop_rounds 1 ?_
    rw [rounds_succ]
    have HAPP : Hid (∀ ty, ∃ v' w', (Builtin.append_ #[28, 28] ty #[.slice none 0 0, .slice (some ⟨w.heap.size, 0, none⟩) 1 1]).run Tryz.prog (w.alloc (.cells #[.int .i64 5] 3)) = .ok v' w' ∧ SF B (fun t => t = 3) w w') := fun ty => by
      obtain ⟨v', w', h1, h2⟩ := app_sf (B := B) (T := fun t => t = 3) (w.alloc (.cells #[.int .i64 5] 3)) 28 ty 3 i0 _ 1 8 Tryz.underlying28 hi hz0 hz1 hz2 rfl (by decide) (.slice none 0 0) 0 ⟨[], World.ownsRow_nil _ _ _ _⟩ ⟨w.heap.size, 0, none⟩ 1 [.int .i64 5] rfl (one_cell _ _ _) (one_one _ _) hn (by decide) (by simp; omega) rfl
      exact ⟨v', w', h1, (SF.bel ((Below.refl _ _).alloc (Nat.le_refl _) _) hB).trans h2⟩
    go_wp2_with (first
      | (at_builtin; refine wpList_append_run _ (Z := fun _ w' => SF B (fun t => t = 3) w w') rfl _ _ 28 28 rfl _ _ rfl rfl ((unhide HAPP) _) ?_)
      | go_in)
    intro v' w1 hsf
    have HSF := hide hsf
    clear hsf HAPP
    go_wp2
    go_end0
    exact ⟨rfl, unhide HSF⟩
  · have HO := hide h
    have hgb := h.blk
    clear h
    go_enter Tryz.func78, Tryz.ntmps78
    go_wp2
    go_loopw [2] (fun i wr => ∃ k : Nat, k ≤ n ∧ i = .int .i64 k ∧ Hid (SF B (fun t => t = 3) w wr)) (fun i _ => n - (intOf i).toNat)
    case atStart => exact ⟨0, Nat.zero_le _, rfl, SF.refl _ _ _⟩
    case round =>
      obtain ⟨k, hk, rfl, HSF⟩ := hrel
      have HOr := hide ((unhide HO).sf (unhide HSF))
      by_cases hlt : k < n
      · have HG : Hid (SFg B (fun t => t = 3) w wr g 3) := ⟨unhide HSF, (unhide HOr).blk.1, rfl, (unhide HOr).blk.2⟩
        obtain ⟨⟨v0, c0⟩, f0⟩ := (unhide HOr).cell (k) (by omega)
        go_wp2
        go_roundw
        case rel => exact ⟨k + 1, by omega, by go_num, ((unhide HG).set _ _).1⟩
        case measure => simp [intOf]; omega
      · have HAPP : Hid (∀ ty, ∃ v' w', (Builtin.append_ #[28, 28] ty #[.slice (some ⟨g, 0, none⟩) n cap, .slice (some ⟨wr.heap.size, 0, none⟩) 1 1]).run Tryz.prog (wr.alloc (.cells #[.int .i64 5] 3)) = .ok v' w' ∧ SF B (fun t => t = 3) w w') := fun ty => by
          obtain ⟨xs, hx⟩ := unhide HOr
          obtain ⟨v', w', h1, h2⟩ := app_sf (B := B) (T := fun t => t = 3) (wr.alloc (.cells #[.int .i64 5] 3)) 28 ty 3 i0 _ 1 8 Tryz.underlying28 hi hz0 hz1 hz2 rfl (by decide) (.slice (some ⟨g, 0, none⟩) n cap) n ⟨xs, hx.alloc _⟩ ⟨wr.heap.size, 0, none⟩ 1 [.int .i64 5] rfl (one_cell _ _ _) (one_one _ _) hn (by decide) (by have := (unhide HSF).size; simp; omega) rfl
          exact ⟨v', w', h1, ((unhide HSF).trans (SF.bel ((Below.refl _ _).alloc (Nat.le_refl _) _) (Nat.le_trans hB (unhide HSF).size))).trans h2⟩
        clear HOr
        go_wp2_with (first
          | (at_builtin; refine wpList_append_run _ (Z := fun _ w' => SF B (fun t => t = 3) w w') rfl _ _ 28 28 rfl _ _ rfl rfl ((unhide HAPP) _) ?_)
          | go_in)
        intro v' w1 hsf
        have HSF1 := hide hsf
        clear hsf HAPP
        go_wp2
        go_end0
        exact ⟨rfl, unhide HSF1⟩
set_option maxHeartbeats 2000000 in
theorem strings_sp (B : Nat) (v : Value) (n : Nat) (w : World) (hB : B ≤ w.heap.size) (hn : n ≤ 1000000) (h : OwnE w B 9 1 v n) : Calls Tryz.prog 76 #[v] w fun e w' => e = .returned (.tuple #[]) ∧ SF B (fun t => t = 9) w w' := by
  obtain ⟨i0, hi, hz0, hz1, hz2⟩ := info_parts infoStr
  have hv : (v = .slice none 0 0 ∧ n = 0) ∨ ∃ g cap, v = .slice (some ⟨g, 0, none⟩) n cap := by
    obtain ⟨xs, h⟩ := h
    rcases h.2 with h1 | ⟨g, cap, _, h1, _⟩
    · exact .inl h1
    · exact .inr ⟨g, cap, h1⟩
  rcases hv with ⟨rfl, rfl⟩ | ⟨g, cap, rfl⟩
  · clear h
    go_enter Tryz.func76, Tryz.ntmps76
    go_wp2
    refine wp_loop_rounds 1 ?_
    rw [rounds_succ]
    have HAPP : Hid (∀ ty, ∃ v' w', (Builtin.append_ #[26, 26] ty #[.slice none 0 0, .slice (some ⟨w.heap.size, 0, none⟩) 1 1]).run Tryz.prog (w.alloc (.cells #[.string ⟨#[]⟩] 9)) = .ok v' w' ∧ SF B (fun t => t = 9) w w') := fun ty => by
      obtain ⟨v', w', h1, h2⟩ := app_sf (B := B) (T := fun t => t = 9) (w.alloc (.cells #[.string ⟨#[]⟩] 9)) 26 ty 9 i0 _ 1 16 Tryz.underlying26 hi hz0 hz1 hz2 rfl (by decide) (.slice none 0 0) 0 ⟨[], World.ownsRow_nil _ _ _ _⟩ ⟨w.heap.size, 0, none⟩ 1 [.string ⟨#[]⟩] rfl (one_cell _ _ _) (one_str _) hn (by decide) (by simp; omega) rfl
      exact ⟨v', w', h1, (SF.bel ((Below.refl _ _).alloc (Nat.le_refl _) _) hB).trans h2⟩
    go_wp2_with (first
      | (at_builtin; refine wpList_append_run _ (Z := fun _ w' => SF B (fun t => t = 9) w w') rfl _ _ 26 26 rfl _ _ rfl rfl ((unhide HAPP) _) ?_)
      | go_in)
    intro v' w1 hsf
    have HSF := hide hsf
    clear hsf HAPP
    go_wp2
    go_end0
    exact ⟨rfl, unhide HSF⟩
  · have HO := hide h
    have hgb := h.blk
    clear h
    go_enter Tryz.func76, Tryz.ntmps76
    go_wp2
    go_loopw [2] (fun i wr => ∃ k : Nat, k ≤ n ∧ i = .int .i64 k ∧ Hid (SF B (fun t => t = 9) w wr)) (fun i _ => n - (intOf i).toNat)
    case atStart => exact ⟨0, Nat.zero_le _, rfl, SF.refl _ _ _⟩
    case round =>
      obtain ⟨k, hk, rfl, HSF⟩ := hrel
      have HOr := hide ((unhide HO).sf (unhide HSF))
      by_cases hlt : k < n
      · have HG : Hid (SFg B (fun t => t = 9) w wr g 9) := ⟨unhide HSF, (unhide HOr).blk.1, rfl, (unhide HOr).blk.2⟩
        obtain ⟨⟨v0, c0⟩, f0⟩ := (unhide HOr).cell (k) (by omega)
        go_wp2
        go_roundw
        case rel => exact ⟨k + 1, by omega, by go_num, ((unhide HG).set _ _).1⟩
        case measure => simp [intOf]; omega
      · have HAPP : Hid (∀ ty, ∃ v' w', (Builtin.append_ #[26, 26] ty #[.slice (some ⟨g, 0, none⟩) n cap, .slice (some ⟨wr.heap.size, 0, none⟩) 1 1]).run Tryz.prog (wr.alloc (.cells #[.string ⟨#[]⟩] 9)) = .ok v' w' ∧ SF B (fun t => t = 9) w w') := fun ty => by
          obtain ⟨xs, hx⟩ := unhide HOr
          obtain ⟨v', w', h1, h2⟩ := app_sf (B := B) (T := fun t => t = 9) (wr.alloc (.cells #[.string ⟨#[]⟩] 9)) 26 ty 9 i0 _ 1 16 Tryz.underlying26 hi hz0 hz1 hz2 rfl (by decide) (.slice (some ⟨g, 0, none⟩) n cap) n ⟨xs, hx.alloc _⟩ ⟨wr.heap.size, 0, none⟩ 1 [.string ⟨#[]⟩] rfl (one_cell _ _ _) (one_str _) hn (by decide) (by have := (unhide HSF).size; simp; omega) rfl
          exact ⟨v', w', h1, ((unhide HSF).trans (SF.bel ((Below.refl _ _).alloc (Nat.le_refl _) _) (Nat.le_trans hB (unhide HSF).size))).trans h2⟩
        clear HOr
        go_wp2_with (first
          | (at_builtin; refine wpList_append_run _ (Z := fun _ w' => SF B (fun t => t = 9) w w') rfl _ _ 26 26 rfl _ _ rfl rfl ((unhide HAPP) _) ?_)
          | go_in)
        intro v' w1 hsf
        have HSF1 := hide hsf
        clear hsf HAPP
        go_wp2
        go_end0
        exact ⟨rfl, unhide HSF1⟩
set_option maxHeartbeats 2000000 in
theorem props_sp (B : Nat) (v : Value) (n : Nat) (w : World) (hB : B ≤ w.heap.size) (hn : n ≤ 1000000) (h : OwnE w B 120 4 v n) : Calls Tryz.prog 74 #[v] w fun e w' => e = .returned (.tuple #[]) ∧ SF B (fun t => t = 120) w w' := by
  obtain ⟨i0, hi, hz0, hz1, hz2⟩ := info_parts Tryz.infoProp
  have hv : (v = .slice none 0 0 ∧ n = 0) ∨ ∃ g cap, v = .slice (some ⟨g, 0, none⟩) n cap := by
    obtain ⟨xs, h⟩ := h
    rcases h.2 with h1 | ⟨g, cap, _, h1, _⟩
    · exact .inl h1
    · exact .inr ⟨g, cap, h1⟩
  rcases hv with ⟨rfl, rfl⟩ | ⟨g, cap, rfl⟩
  · clear h
    go_enter Tryz.func74, Tryz.ntmps74
    go_wp2
    refine wp_loop_rounds 1 ?_
    rw [rounds_succ]
    have HAPP : Hid (∀ ty, ∃ v' w', (Builtin.append_ #[24, 24] ty #[.slice none 0 0, .slice (some ⟨w.heap.size, 0, none⟩) 1 1]).run Tryz.prog (w.alloc (.cells #[.int .i64 0, .int .i64 0, .string ⟨#[]⟩, .string ⟨#[]⟩] 120)) = .ok v' w' ∧ SF B (fun t => t = 120) w w') := fun ty => by
      obtain ⟨v', w', h1, h2⟩ := app_sf (B := B) (T := fun t => t = 120) (w.alloc (.cells #[.int .i64 0, .int .i64 0, .string ⟨#[]⟩, .string ⟨#[]⟩] 120)) 24 ty 120 i0 _ 4 48 Tryz.underlying24 hi hz0 hz1 hz2 rfl (by decide) (.slice none 0 0) 0 ⟨[], World.ownsRow_nil _ _ _ _⟩ ⟨w.heap.size, 0, none⟩ 1 [.int .i64 0, .int .i64 0, .string ⟨#[]⟩, .string ⟨#[]⟩] rfl (four_cell _ _ _ _ _ _) (four_one _ _ _ _) hn (by decide) (by simp; omega) rfl
      exact ⟨v', w', h1, (SF.bel ((Below.refl _ _).alloc (Nat.le_refl _) _) hB).trans h2⟩
    go_wp2_with (first
      | (at_builtin; refine wpList_append_run _ (Z := fun _ w' => SF B (fun t => t = 120) w w') rfl _ _ 24 24 rfl _ _ rfl rfl ((unhide HAPP) _) ?_)
      | go_in)
    intro v' w1 hsf
    have HSF := hide hsf
    clear hsf HAPP
    go_wp2
    go_end0
    exact ⟨rfl, unhide HSF⟩
  · have HO := hide h
    have hgb := h.blk
    clear h
    go_enter Tryz.func74, Tryz.ntmps74
    go_wp2
    go_loopw [2] (fun i wr => ∃ k : Nat, k ≤ n ∧ i = .int .i64 k ∧ Hid (SF B (fun t => t = 120) w wr)) (fun i _ => n - (intOf i).toNat)
    case atStart => exact ⟨0, Nat.zero_le _, rfl, SF.refl _ _ _⟩
    case round =>
      obtain ⟨k, hk, rfl, HSF⟩ := hrel
      have HOr := hide ((unhide HO).sf (unhide HSF))
      by_cases hlt : k < n
      · have HG : Hid (SFg B (fun t => t = 120) w wr g 120) := ⟨unhide HSF, (unhide HOr).blk.1, rfl, (unhide HOr).blk.2⟩
        obtain ⟨⟨v0, c0⟩, f0⟩ := (unhide HOr).cell (k * 4) (by omega)
        obtain ⟨⟨v1, c1⟩, f1⟩ := (unhide HOr).cell (k * 4 + 1) (by omega)
        obtain ⟨⟨v2, c2⟩, f2⟩ := (unhide HOr).cell (k * 4 + 2) (by omega)
        obtain ⟨⟨v3, c3⟩, f3⟩ := (unhide HOr).cell (k * 4 + 3) (by omega)
        go_wp2
        go_roundw
        case rel => exact ⟨k + 1, by omega, by go_num, (((((unhide HG).set _ _).set _ _).set _ _).set _ _).1⟩
        case measure => simp [intOf]; omega
      · have HAPP : Hid (∀ ty, ∃ v' w', (Builtin.append_ #[24, 24] ty #[.slice (some ⟨g, 0, none⟩) n cap, .slice (some ⟨wr.heap.size, 0, none⟩) 1 1]).run Tryz.prog (wr.alloc (.cells #[.int .i64 0, .int .i64 0, .string ⟨#[]⟩, .string ⟨#[]⟩] 120)) = .ok v' w' ∧ SF B (fun t => t = 120) w w') := fun ty => by
          obtain ⟨xs, hx⟩ := unhide HOr
          obtain ⟨v', w', h1, h2⟩ := app_sf (B := B) (T := fun t => t = 120) (wr.alloc (.cells #[.int .i64 0, .int .i64 0, .string ⟨#[]⟩, .string ⟨#[]⟩] 120)) 24 ty 120 i0 _ 4 48 Tryz.underlying24 hi hz0 hz1 hz2 rfl (by decide) (.slice (some ⟨g, 0, none⟩) n cap) n ⟨xs, hx.alloc _⟩ ⟨wr.heap.size, 0, none⟩ 1 [.int .i64 0, .int .i64 0, .string ⟨#[]⟩, .string ⟨#[]⟩] rfl (four_cell _ _ _ _ _ _) (four_one _ _ _ _) hn (by decide) (by have := (unhide HSF).size; simp; omega) rfl
          exact ⟨v', w', h1, ((unhide HSF).trans (SF.bel ((Below.refl _ _).alloc (Nat.le_refl _) _) (Nat.le_trans hB (unhide HSF).size))).trans h2⟩
        clear HOr
        go_wp2_with (first
          | (at_builtin; refine wpList_append_run _ (Z := fun _ w' => SF B (fun t => t = 120) w w') rfl _ _ 24 24 rfl _ _ rfl rfl ((unhide HAPP) _) ?_)
          | go_in)
        intro v' w1 hsf
        have HSF1 := hide hsf
        clear hsf HAPP
        go_wp2
        go_end0
        exact ⟨rfl, unhide HSF1⟩
set_option maxHeartbeats 2000000 in
theorem subs_sp (B : Nat) (v : Value) (n : Nat) (w : World) (hB : B ≤ w.heap.size) (hn : n ≤ 1000000) (h : OwnE w B 75 5 v n) : Calls Tryz.prog 77 #[v] w fun e w' => e = .returned (.tuple #[]) ∧ SF B (fun t => t = 75) w w' := by
  obtain ⟨i0, hi, hz0, hz1, hz2⟩ := info_parts infoSub
  have hv : (v = .slice none 0 0 ∧ n = 0) ∨ ∃ g cap, v = .slice (some ⟨g, 0, none⟩) n cap := by
    obtain ⟨xs, h⟩ := h
    rcases h.2 with h1 | ⟨g, cap, _, h1, _⟩
    · exact .inl h1
    · exact .inr ⟨g, cap, h1⟩
  rcases hv with ⟨rfl, rfl⟩ | ⟨g, cap, rfl⟩
  · clear h
    go_enter Tryz.func77, Tryz.ntmps77
    go_wp2
    refine wp_loop_rounds 1 ?_
    rw [rounds_succ]
    have HAPP : Hid (∀ ty, ∃ v' w', (Builtin.append_ #[27, 27] ty #[.slice none 0 0, .slice (some ⟨w.heap.size, 0, none⟩) 1 1]).run Tryz.prog (w.alloc (.cells #[.string ⟨#[]⟩, .int .i64 0, .bool false, .bool false, .int .i64 0] 75)) = .ok v' w' ∧ SF B (fun t => t = 75) w w') := fun ty => by
      obtain ⟨v', w', h1, h2⟩ := app_sf (B := B) (T := fun t => t = 75) (w.alloc (.cells #[.string ⟨#[]⟩, .int .i64 0, .bool false, .bool false, .int .i64 0] 75)) 27 ty 75 i0 _ 5 40 Tryz.underlying27 hi hz0 hz1 hz2 rfl (by decide) (.slice none 0 0) 0 ⟨[], World.ownsRow_nil _ _ _ _⟩ ⟨w.heap.size, 0, none⟩ 1 [.string ⟨#[]⟩, .int .i64 0, .bool false, .bool false, .int .i64 0] rfl (five_cell _ _ _ _ _ _ _) (five_one ⟨⟨#[]⟩, 0, false, false, 0⟩) hn (by decide) (by simp; omega) rfl
      exact ⟨v', w', h1, (SF.bel ((Below.refl _ _).alloc (Nat.le_refl _) _) hB).trans h2⟩
    go_wp2_with (first
      | (at_builtin; refine wpList_append_run _ (Z := fun _ w' => SF B (fun t => t = 75) w w') rfl _ _ 27 27 rfl _ _ rfl rfl ((unhide HAPP) _) ?_)
      | go_in)
    intro v' w1 hsf
    have HSF := hide hsf
    clear hsf HAPP
    go_wp2
    go_end0
    exact ⟨rfl, unhide HSF⟩
  · have HO := hide h
    have hgb := h.blk
    clear h
    go_enter Tryz.func77, Tryz.ntmps77
    go_wp2
    go_loopw [2] (fun i wr => ∃ k : Nat, k ≤ n ∧ i = .int .i64 k ∧ Hid (SF B (fun t => t = 75) w wr)) (fun i _ => n - (intOf i).toNat)
    case atStart => exact ⟨0, Nat.zero_le _, rfl, SF.refl _ _ _⟩
    case round =>
      obtain ⟨k, hk, rfl, HSF⟩ := hrel
      have HOr := hide ((unhide HO).sf (unhide HSF))
      by_cases hlt : k < n
      · have HG : Hid (SFg B (fun t => t = 75) w wr g 75) := ⟨unhide HSF, (unhide HOr).blk.1, rfl, (unhide HOr).blk.2⟩
        obtain ⟨⟨v0, c0⟩, f0⟩ := (unhide HOr).cell (k * 5) (by omega)
        obtain ⟨⟨v1, c1⟩, f1⟩ := (unhide HOr).cell (k * 5 + 1) (by omega)
        obtain ⟨⟨v2, c2⟩, f2⟩ := (unhide HOr).cell (k * 5 + 2) (by omega)
        obtain ⟨⟨v3, c3⟩, f3⟩ := (unhide HOr).cell (k * 5 + 3) (by omega)
        obtain ⟨⟨v4, c4⟩, f4⟩ := (unhide HOr).cell (k * 5 + 4) (by omega)
        go_wp2
        go_roundw
        case rel => exact ⟨k + 1, by omega, by go_num, ((((((unhide HG).set _ _).set _ _).set _ _).set _ _).set _ _).1⟩
        case measure => simp [intOf]; omega
      · have HAPP : Hid (∀ ty, ∃ v' w', (Builtin.append_ #[27, 27] ty #[.slice (some ⟨g, 0, none⟩) n cap, .slice (some ⟨wr.heap.size, 0, none⟩) 1 1]).run Tryz.prog (wr.alloc (.cells #[.string ⟨#[]⟩, .int .i64 0, .bool false, .bool false, .int .i64 0] 75)) = .ok v' w' ∧ SF B (fun t => t = 75) w w') := fun ty => by
          obtain ⟨xs, hx⟩ := unhide HOr
          obtain ⟨v', w', h1, h2⟩ := app_sf (B := B) (T := fun t => t = 75) (wr.alloc (.cells #[.string ⟨#[]⟩, .int .i64 0, .bool false, .bool false, .int .i64 0] 75)) 27 ty 75 i0 _ 5 40 Tryz.underlying27 hi hz0 hz1 hz2 rfl (by decide) (.slice (some ⟨g, 0, none⟩) n cap) n ⟨xs, hx.alloc _⟩ ⟨wr.heap.size, 0, none⟩ 1 [.string ⟨#[]⟩, .int .i64 0, .bool false, .bool false, .int .i64 0] rfl (five_cell _ _ _ _ _ _ _) (five_one ⟨⟨#[]⟩, 0, false, false, 0⟩) hn (by decide) (by have := (unhide HSF).size; simp; omega) rfl
          exact ⟨v', w', h1, ((unhide HSF).trans (SF.bel ((Below.refl _ _).alloc (Nat.le_refl _) _) (Nat.le_trans hB (unhide HSF).size))).trans h2⟩
        clear HOr
        go_wp2_with (first
          | (at_builtin; refine wpList_append_run _ (Z := fun _ w' => SF B (fun t => t = 75) w w') rfl _ _ 27 27 rfl _ _ rfl rfl ((unhide HAPP) _) ?_)
          | go_in)
        intro v' w1 hsf
        have HSF1 := hide hsf
        clear hsf HAPP
        go_wp2
        go_end0
        exact ⟨rfl, unhide HSF1⟩
end Go.Proofs.YtpoeakillimibaaGreatDoor.K
