/- Proved here: the walk of dovecotelaw8.RetainLaws: at any asks it returns true. -/
import Derived.Test.YtknbgnoahfeigaaGreatDoorZMLawsP
namespace Go.Proofs.YtknbgnoahfeigaaGreatDoor.M
open Go.RowKit
set_option maxRecDepth 100000

theorem ten {w w2 : World} {t : TypeId} {l : List Mg} {lo mo : Option Addr} {lc mc : Nat} {m : Mg} {f : ByteArray} {now : Int} (hb : Below (w.alloc (.cells #[.slice lo l.length lc, .string m.topic, .string m.payload, .int .i64 m.qos, .bool m.ret, .string m.frm, .int .i64 m.untl, .slice mo m.props.length mc, .string f, .int .i64 now] t)).heap.size (w.alloc (.cells #[.slice lo l.length lc, .string m.topic, .string m.payload, .int .i64 m.qos, .bool m.ret, .string m.frm, .int .i64 m.untl, .slice mo m.props.length mc, .string f, .int .i64 now] t)) w2) : w2.cell? ⟨w.heap.size, 0, none⟩ = some (.slice lo l.length lc) ∧ w2.cell? ⟨w.heap.size, 1, none⟩ = some (.string m.topic) ∧ w2.cell? ⟨w.heap.size, 2, none⟩ = some (.string m.payload) ∧ w2.cell? ⟨w.heap.size, 3, none⟩ = some (.int .i64 m.qos) ∧ w2.cell? ⟨w.heap.size, 4, none⟩ = some (.bool m.ret) ∧ w2.cell? ⟨w.heap.size, 5, none⟩ = some (.string m.frm) ∧ w2.cell? ⟨w.heap.size, 6, none⟩ = some (.int .i64 m.untl) ∧ w2.cell? ⟨w.heap.size, 7, none⟩ = some (.slice mo m.props.length mc) ∧ w2.cell? ⟨w.heap.size, 8, none⟩ = some (.string f) ∧ w2.cell? ⟨w.heap.size, 9, none⟩ = some (.int .i64 now) := by
  have hl : w.heap.size < (w.alloc (.cells #[.slice lo l.length lc, .string m.topic, .string m.payload, .int .i64 m.qos, .bool m.ret, .string m.frm, .int .i64 m.untl, .slice mo m.props.length mc, .string f, .int .i64 now] t)).heap.size := by simp
  exact ⟨(hb.cell hl).trans (by simp), (hb.cell hl).trans (by simp), (hb.cell hl).trans (by simp), (hb.cell hl).trans (by simp), (hb.cell hl).trans (by simp), (hb.cell hl).trans (by simp), (hb.cell hl).trans (by simp), (hb.cell hl).trans (by simp), (hb.cell hl).trans (by simp), (hb.cell hl).trans (by simp)⟩
/-- what is laid: errors.errorType, and some number in bytealg.MaxLen -/
def Laid2 (w : World) : Prop := Laid w ∧ Len w
theorem Laid2.up {w w' : World} (h : Laid2 w) (hb : Below w.heap.size w w') : Laid2 w' := ⟨lup h.1 hb, h.2.up hb⟩
theorem mgs_of {w : World} {B : Nat} {v : Value} {qs : List Mq} {l : List Mg} (h : OwnMs w B v qs ∧ qs.map (·.1) = l) : Mgs w v l := by
  have h1 := h.1.mgs
  rw [h.2] at h1
  exact h1
theorem match_yes8 (v : Value) (l : List Mg) (f : ByteArray) (now : Int) (w : World) (hm : mayL l) (hf : mayF f = true) (hmx : l.length ≤ 1000000000) (ht : TopOk l) (h : Mgs w v l) (hln : Len w) : Calls Tryz.prog 14 #[v, .string f, .int .i64 now] w fun e w' => ∃ v' qs, e = .returned (.tuple #[v', .nilIface]) ∧ Hid (OwnMs w' w.heap.size v' qs ∧ qs.map (·.1) = l.filter (fnd f now)) ∧ Below w.heap.size w w' := by
  refine (match_any v l f now w hmx ht h hln (by have := mayF_size hf; omega)).mono ?_
  rintro e w' ⟨⟨_, _, v', qs, rfl, HO⟩ | ⟨hn, _⟩ | ⟨_, hn, _⟩, hb⟩
  · exact ⟨v', qs, rfl, HO, hb⟩
  · exact absurd hm hn
  · rw [hf] at hn; cases hn
set_option maxHeartbeats 16000000 in
theorem laws_walk (b off len cap : Nat) (aks : Nat → Ak) (w : World) (hlen : len ≤ maxLen) (hg : Laid2 w) (hk : AsksIn w b off aks len) : Calls Tryz.prog 4 #[.slice (some ⟨b, off, none⟩) len cap] w fun e w' => e = .returned (.bool true) ∧ Below w.heap.size w w' := by
  have HG := hide hg
  have HA := hide hk
  clear hg hk
  go_enter Tryz.func4, Tryz.ntmps4
  go_wp2
  go_loopw [3] (fun i wr => ∃ k : Nat, k ≤ len ∧ k ≤ 6 ∧ i = .int .i64 k ∧ Hid (Below w.heap.size w wr)) (fun i _ => 6 - (intOf i).toNat)
  case atStart => exact ⟨0, Nat.zero_le _, by omega, rfl, Below.refl _ _⟩
  case round =>
    obtain ⟨k, hk, hk6, rfl, HBEL⟩ := hrel
    have HGr := hide ((unhide HG).up (unhide HBEL))
    by_cases hlt : k < len ∧ k < 6
    · obtain ⟨hlt, hlt6⟩ := hlt
      obtain ⟨lo, lc, mo, mc, hc, hl, hp, htop, hmt, hft, hll⟩ := ((unhide HA) k hlt).below (unhide HBEL)
      generalize aks k = ak at hc hl hp htop hmt hft hll
      obtain ⟨l, m, f, now⟩ := ak
      dsimp only at hc hl hp htop hmt hft hll
      obtain ⟨c0, c1, c2, c3, c4, c5, c6, c7, c8, c9⟩ := hc
      have HL := hide hl
      have HP := hide hp
      have HTP := hide htop
      have HMT := hide hmt
      have HHV := hide (fun W (hW : Below wr.heap.size wr W) => heavy_any l lo lc m mo mc f now W (hp.below hW) (hl.below hW) hll)
      clear hl hp htop hmt hft
      go_wp2_with fail
      refine ((unhide HHV) _ ((Below.refl _ _).alloc (Nat.le_refl _) _)).mono ?_
      clear HHV
      rintro e w2 ⟨⟨bo, rfl, hbo⟩, hb2⟩
      have HB2 : Hid (Below wr.heap.size wr w2) := bnx ((Below.refl _ _).alloc (Nat.le_refl _) _) hb2
      cases bo
      case true =>
        clear hbo
        go_wp2
        go_ret
        exact ⟨rfl, bnx (unhide HBEL) (unhide HB2)⟩
      have h100 := hbo rfl
      have HBX := hide hb2
      have HBT := hide (bnx (unhide HBEL) (unhide HB2))
      have HL2 := hide ((unhide HL).below (unhide HB2))
      have HP2 := hide ((unhide HP).below (unhide HB2))
      have HG2 := hide ((unhide HGr).up (unhide HB2))
      obtain ⟨e0, e1, e2, e3, e4, e5, e6, e7, e8, e9⟩ := ten hb2
      clear hb2 c0 c1 c2 c3 c4 c5 c6 c7 c8 c9 HL HP hbo
      by_cases hm : mayL l
      · obtain ⟨kk, hat⟩ := at_ex hm m.topic
        go_wp2_with fail
        refine (put_yes _ l m mo mc kk _ hm hat (by omega) (unhide HTP) (unhide HL2) (unhide HP2) (unhide HMT)).mono ?_
        rintro e w3 ⟨v3, E3, q3, rfl, HE3, HO3, hb3⟩
        clear e0 e1 e2 e3 e4 e5 e6 e7 e8 e9
        obtain ⟨e0, e1, e2, e3, e4, e5, e6, e7, e8, e9⟩ := ten (bnx (unhide HBX) hb3)
        have HX3 := hide (bnx (unhide HBX) hb3)
        have HB23 := hide hb3
        have HG3 := hide ((unhide HG2).up hb3)
        clear hb3
        by_cases h0 : putN l m kk = 0
        · rw [h0] at HE3
          have HM3 : Hid (Mgs w3 v3 (putL l m kk)) := by
            have h := mgs_of (unhide HO3)
            unfold putA at h
            rw [if_pos h0] at h
            exact h
          have hlA : (putL l m kk).length ≤ 101 := by
            have h := putA_len l m kk
            unfold putA at h
            rw [if_pos h0] at h
            omega
          have hlA2 : (putL l m kk).length ≤ l.length + 1 := by
            have h := putA_len l m kk
            unfold putA at h
            rw [if_pos h0] at h
            exact h
          obtain ⟨pA1, pA2, pA3, pA4, pA5, pA6, pA7⟩ := put_all hm hat h0
          have HTA := hide (top_put (k := kk) (unhide HTP) (unhide HMT))
          generalize putL l m kk = A at HM3 hlA hlA2 pA1 pA2 pA3 pA4 pA5 pA7 HTA
          have HAT := hide hat
          have P1 := hide pA1
          have P2 := hide pA2
          have P3 := hide pA3
          have P4 := hide pA4
          have P5 := hide pA5
          have P6 := hide pA6
          have P7 := hide pA7
          clear HO3 hat pA1 pA2 pA3 pA4 pA5 pA6 pA7 h0
          go_wp2_with fail
          refine (num8 _ 0 _ (unhide HG3).1 (unhide HE3)).mono ?_
          rintro e w4 ⟨rfl, hb4⟩
          clear e0 e1 e2 e3 e4 e5 e6 e7 e8 e9
          obtain ⟨e0, e1, e2, e3, e4, e5, e6, e7, e8, e9⟩ := ten (bnx (unhide HX3) hb4)
          have HX4 := hide (bnx (unhide HX3) hb4)
          have HB24 := hide (bnx (unhide HB23) hb4)
          have HM4 := hide ((unhide HM3).below hb4)
          clear hb4 HM3 HE3
          go_wp2_with fail
          refine (put_yes _ A m mo mc kk _ (unhide P1) (unhide P2) (by omega) (unhide HTA) (unhide HM4) ((unhide HP2).below (unhide HB24)) (unhide HMT)).mono ?_
          rintro e w5 ⟨v5, E5, q5, rfl, HE5, HO5, hb5⟩
          rw [unhide P3] at HE5
          have HM5b : Hid (Mgs w5 v5 A) := by
            have h := mgs_of (unhide HO5)
            unfold putA at h
            rw [if_pos (unhide P3), unhide P4] at h
            exact h
          clear e0 e1 e2 e3 e4 e5 e6 e7 e8 e9
          obtain ⟨e0, e1, e2, e3, e4, e5, e6, e7, e8, e9⟩ := ten (bnx (unhide HX4) hb5)
          have HX5 := hide (bnx (unhide HX4) hb5)
          have HB25 := hide (bnx (unhide HB24) hb5)
          have HM5 := hide ((unhide HM4).below hb5)
          clear hb5 HM4 HO5
          go_wp2_with fail
          refine (copym_any m mo mc _ ((unhide HP2).below (unhide HB25))).mono ?_
          rintro e w6 ⟨sv, rfl, HS, hb6⟩
          obtain ⟨so, sc, rfl⟩ := owns_slice (unhide HS)
          clear e0 e1 e2 e3 e4 e5 e6 e7 e8 e9
          obtain ⟨e0, e1, e2, e3, e4, e5, e6, e7, e8, e9⟩ := ten (bnx (unhide HX5) hb6)
          have HX6 := hide (bnx (unhide HX5) hb6)
          have HB26 := hide (bnx (unhide HB25) hb6)
          have HM6 := hide ((unhide HM5).below hb6)
          have HM6b := hide ((unhide HM5b).below hb6)
          have HE6 := hide ((unhide HE5).below hb6)
          clear hb6 HM5 HM5b HE5
          go_wp2_with fail
          have HX7 : Hid (Below (wr.alloc (.cells #[.slice lo l.length lc, .string m.topic, .string m.payload, .int .i64 m.qos, .bool m.ret, .string m.frm, .int .i64 m.untl, .slice mo m.props.length mc, .string f, .int .i64 now] 28)).heap.size (wr.alloc (.cells #[.slice lo l.length lc, .string m.topic, .string m.payload, .int .i64 m.qos, .bool m.ret, .string m.frm, .int .i64 m.untl, .slice mo m.props.length mc, .string f, .int .i64 now] 28)) (w6.alloc (.cells #[.string m.topic, .string ⟨#[]⟩, .int .i64 m.qos, .bool m.ret, .string m.frm, .int .i64 m.untl, .slice so m.props.length sc] 26))) := bnx (unhide HX6) ((Below.refl _ _).alloc (Nat.le_refl _) _)
          have HB27 : Hid (Below w2.heap.size w2 (w6.alloc (.cells #[.string m.topic, .string ⟨#[]⟩, .int .i64 m.qos, .bool m.ret, .string m.frm, .int .i64 m.untl, .slice so m.props.length sc] 26))) := bnx (unhide HB26) ((Below.refl _ _).alloc (Nat.le_refl _) _)
          have HB67 : Hid (Below w6.heap.size w6 (w6.alloc (.cells #[.string m.topic, .string ⟨#[]⟩, .int .i64 m.qos, .bool m.ret, .string m.frm, .int .i64 m.untl, .slice so m.props.length sc] 26))) := (Below.refl _ _).alloc (Nat.le_refl _) _
          have HPK7 : Hid (Pok (w6.alloc (.cells #[.string m.topic, .string ⟨#[]⟩, .int .i64 m.qos, .bool m.ret, .string m.frm, .int .i64 m.untl, .slice so m.props.length sc] 26)) so sc (bare m).props) := ⟨(prp_of_owns (unhide HS)).below (unhide HB67), (unhide HP2).2⟩
          refine (put_yes _ A (bare m) so sc kk _ (unhide P1) (unhide P2) (by omega) (unhide HTA) ((unhide HM6).below (unhide HB67)) (unhide HPK7) (unhide HMT)).mono ?_
          rintro e w8 ⟨v8, E8, q8, rfl, HE8, HO8, hb8⟩
          rw [unhide P5] at HE8
          have HM8 : Hid (Mgs w8 v8 (putL l (bare m) kk)) := by
            have h := mgs_of (unhide HO8)
            unfold putA at h
            rw [if_pos (unhide P5), unhide P7] at h
            exact h
          clear e0 e1 e2 e3 e4 e5 e6 e7 e8 e9
          obtain ⟨e0, e1, e2, e3, e4, e5, e6, e7, e8, e9⟩ := ten (bnx (unhide HX7) hb8)
          obtain ⟨y0, y1, y2, y3, y4, y5, y6⟩ := box7 (m := bare m) hb8
          dsimp only at y0 y1 y2 y3 y4 y5 y6
          have HX8 := hide (bnx (unhide HX7) hb8)
          have HB28 := hide (bnx (unhide HB27) hb8)
          have HB68 := hide (bnx (unhide HB67) hb8)
          have HPK8 := hide ((unhide HPK7).below hb8)
          clear hb8 HO8 HPK7
          go_wp2_with fail
          refine (put_yes _ l (bare m) so sc kk _ hm (unhide HAT) (by omega) (unhide HTP) ((unhide HL2).below (unhide HB28)) (unhide HPK8) (unhide HMT)).mono ?_
          rintro e w9 ⟨v9, E9, q9, rfl, HE9, HO9, hb9⟩
          rw [unhide P6] at HE9
          have HM9 : Hid (Mgs w9 v9 (putL l (bare m) kk)) := by
            have h := mgs_of (unhide HO9)
            unfold putA at h
            rw [if_pos (unhide P6)] at h
            exact h
          have hlD : (putL l (bare m) kk).length ≤ 140737488351232 := by
            have h := putA_len l (bare m) kk
            unfold putA at h
            rw [if_pos (unhide P6)] at h
            omega
          clear e0 e1 e2 e3 e4 e5 e6 e7 e8 e9
          clear y0 y1 y2 y3 y4 y5 y6
          have HX9 := hide (bnx (unhide HX8) hb9)
          have HB29 := hide (bnx (unhide HB28) hb9)
          have HB69 := hide (bnx (unhide HB68) hb9)
          have HM9c := hide ((unhide HM8).below hb9)
          have HE9c := hide ((unhide HE8).below hb9)
          clear hb9 HO9 HM8 HE8
          generalize putL l (bare m) kk = DD at HM9 HM9c hlD P7
          clear P7
          go_wp2_with fail
          refine (num8 _ 0 _ ((unhide HG2).up (unhide HB29)).1 ((unhide HE6).below (unhide HB69))).mono ?_
          rintro e wa ⟨rfl, hba⟩
          have HBa := hide hba
          clear hba
          go_wp2_with fail
          refine (eqms_same _ _ A _ ((unhide HM6).below (bnx (unhide HB69) (unhide HBa))) ((unhide HM6b).below (bnx (unhide HB69) (unhide HBa))) (by omega)).mono ?_
          rintro e wb ⟨rfl, hbb⟩
          have HBb := hide (bnx (unhide HBa) hbb)
          clear hbb
          go_wp2_with fail
          refine (num8 _ 0 _ ((unhide HG2).up (bnx (unhide HB29) (unhide HBb))).1 ((unhide HE9c).below (unhide HBb))).mono ?_
          rintro e wc ⟨rfl, hbc⟩
          have HBc := hide (bnx (unhide HBb) hbc)
          clear hbc
          go_wp2_with fail
          refine (num8 _ 0 _ ((unhide HG2).up (bnx (unhide HB29) (unhide HBc))).1 ((unhide HE9).below (unhide HBc))).mono ?_
          rintro e wd ⟨rfl, hbd⟩
          have HBd := hide (bnx (unhide HBc) hbd)
          clear hbd
          go_wp2_with fail
          refine (eqms_same _ _ DD _ ((unhide HM9c).below (unhide HBd)) ((unhide HM9).below (unhide HBd)) hlD).mono ?_
          rintro e wf ⟨rfl, hbf⟩
          have HBf := hide (bnx (unhide HBd) hbf)
          clear hbf
          have HM6f := hide ((unhide HM6).below (bnx (unhide HB69) (unhide HBf)))
          obtain ⟨e0, e1, e2, e3, e4, e5, e6, e7, e8, e9⟩ := ten (bnx (unhide HX9) (unhide HBf))
          obtain ⟨ao3, c3, hv3, hcap3⟩ : ∃ ao c, v3 = .slice ao A.length c ∧ A.length ≤ c := by
            obtain ⟨ao, c, h, hc, _⟩ := unhide HM6f
            exact ⟨ao, c, h, hc.1⟩
          subst hv3
          have hgt : ¬ ((l.length : Int) + 1 < (A.length : Int)) := by omega
          go_wp2_with fail
          refine (drop_yes _ A now _ (unhide P1) (by omega) (unhide HTA) (unhide HM6f)).mono ?_
          rintro e wg ⟨vg, qg, rfl, HOg, hbg⟩
          have HMg := hide (mgs_of (unhide HOg))
          clear e0 e1 e2 e3 e4 e5 e6 e7 e8 e9
          obtain ⟨e0, e1, e2, e3, e4, e5, e6, e7, e8, e9⟩ := ten (bnx (bnx (unhide HX9) (unhide HBf)) hbg)
          have HBg := hide (bnx (unhide HBf) hbg)
          clear hbg HOg
          go_wp2_with fail
          refine (match_yes8 _ A hsh now _ (unhide P1) hsh_may (by omega) (unhide HTA) ((unhide HM6).below (bnx (unhide HB69) (unhide HBg))) ((unhide HG2).up (bnx (unhide HB29) (unhide HBg))).2).mono ?_
          rintro e wh ⟨vh, qh, rfl, HOh, hbh⟩
          have HMh := hide (mgs_of (unhide HOh))
          have HFH := hide (fnd_hsh (unhide P1) now)
          have HMG : Hid (Mgs wh vg (A.filter (liv now))) := (unhide HMg).below hbh
          have HMA := hide (may_filter (unhide P1) (liv now))
          have hlg : (A.filter (liv now)).length ≤ 101 := by have := len_filter A (liv now); omega
          have HBh := hide (bnx (unhide HBg) hbh)
          clear e0 e1 e2 e3 e4 e5 e6 e7 e8 e9
          clear hbh HOh HMg
          rw [unhide HFH] at HMh
          generalize A.filter (liv now) = F at HMh HMG HMA hlg
          have hlh : (F.filter noD).length ≤ 101 := by have := len_filter F noD; omega
          obtain ⟨aoh, ch, hvh⟩ : ∃ ao c, vh = .slice ao (F.filter noD).length c := by
            obtain ⟨ao, c, h, _⟩ := unhide HMh
            exact ⟨ao, c, h⟩
          subst hvh
          have HBF0 := hide (bnx (bnx (unhide HBT) (unhide HB29)) (unhide HBh))
          have HGh := hide ((unhide HG2).up (bnx (unhide HB29) (unhide HBh)))
          obtain ⟨aog, cg, hvg, hcg, hcase⟩ := unhide HMG
          subst hvg
          have HCS := hide hcase
          clear hcase
          go_wp2
          obtain ⟨wo, hwo⟩ : ∃ wo, wo = wr := ⟨wr, rfl⟩
          clear hwo
          go_loopw [18, 19] (fun n q wr => ∃ j : Nat, j ≤ F.length ∧ q = .int .i64 j ∧ n = .int .i64 ((F.take j).filter noD).length ∧ wr = wh) (fun _ q _ => F.length - (intOf q).toNat)
          case atStart => exact ⟨0, Nat.zero_le _, rfl, rfl, rfl⟩
          case round =>
            obtain ⟨j, hj, rfl, rfl, hwr⟩ := hrel
            subst hwr
            by_cases hjt : j < F.length
            · rcases unhide HCS with h0 | ⟨bg, og, hao, hat⟩
              · rw [h0] at hjt; simp at hjt
              subst hao
              obtain ⟨_, _, ⟨z0, _⟩, _⟩ := hat j hjt
              have HNMu := hide (may_at (unhide HMA) j hjt)
              have HFT := hide (filt_snoc F noD j hjt)
              generalize F.getD j mg0 = u at z0 HNMu HFT
              have hpos := name_pos (unhide HNMu)
              have hnd : noD u = !(((u.topic[0]'hpos).toNat : Int) == 36) := by
                unfold noD
                have e0 : u.topic.data.toList.getD 0 0 = u.topic[0]'hpos := by
                  rw [List.getD_eq_getElem?_getD, Lib.data_getElem? u.topic 0 hpos]; rfl
                rw [e0]
                congr 1
                rw [Bool.eq_iff_iff, decide_eq_true_eq, beq_iff_eq, ← UInt8.toNat_inj]; simp; omega
              cases hc36 : (((u.topic[0]'hpos).toNat : Int) == 36)
              · rw [hc36] at hnd
                have HL1 : Hid (((F.take (j + 1)).filter noD).length = ((F.take j).filter noD).length + 1) := by show _ = _; rw [unhide HFT, if_pos (by simpa using hnd)]; simp
                have hlt2 : ((F.take j).filter noD).length ≤ 101 := by have := len_filter (F.take j) noD; rw [List.length_take] at this; omega
                clear hat HCS
                go_wp2
                go_roundw
                case rel => exact ⟨j + 1, by omega, by go_num, by rw [unhide HL1]; go_num, trivial⟩
                case measure => simp [intOf]; omega
              · rw [hc36] at hnd
                have HL1 : Hid (((F.take (j + 1)).filter noD).length = ((F.take j).filter noD).length) := by show _ = _; rw [unhide HFT, hnd, if_neg (by simp)]; simp
                clear hat HCS
                go_wp2
                go_roundw
                case rel => exact ⟨j + 1, by omega, by go_num, by rw [unhide HL1], trivial⟩
                case measure => simp [intOf]; omega
            · obtain rfl : j = F.length := by omega
              rw [List.take_length]
              go_wp2_with fail
              refine (num8_nil _ (unhide HGh).1).mono ?_
              rintro e wi ⟨rfl, hbi⟩
              have HBi := hide hbi
              clear hbi
              go_wp2_with fail
              refine (num8_nil _ ((unhide HGh).up (unhide HBi)).1).mono ?_
              rintro e wj ⟨rfl, hbj⟩
              have HBF := hide (bnx (bnx (unhide HBF0) (unhide HBi)) hbj)
              clear hbj
              go_wp2
              exact ⟨⟨k + 1, by omega, by omega, by go_num, HBF⟩, by simp [intOf] <;> omega⟩
        · have HNB : Hid ((putN l m kk == 0) = false) := beq_eq_false_iff_ne.2 h0
          generalize putN l m kk = nn at HE3 HNB
          have hnb : (nn == 0) = false := unhide HNB
          clear HO3 h0
          go_wp2_with fail
          refine (num8 _ nn _ (unhide HG3).1 (unhide HE3)).mono ?_
          rintro e w4 ⟨rfl, hb4⟩
          have HBF := hide (bnx (bnx (unhide HBT) (unhide HB23)) hb4)
          clear hb4
          go_wp2
          go_roundw
          case rel => exact ⟨k + 1, by omega, by omega, by go_num, HBF⟩
          case measure => simp [intOf] <;> omega
      · go_wp2_with fail
        refine (put_no _ l m mo mc _ hm (by omega) (unhide HTP) (unhide HL2) (unhide HP2) (unhide HMT)).mono ?_
        rintro e w3 ⟨x, rfl, HX, hb3⟩
        have HB3 := hide hb3
        have HG3 := hide ((unhide HG2).up hb3)
        clear hb3
        go_wp2_with fail
        refine (num8_era _ 1 _ (unhide HG3).1 (unhide HX)).mono ?_
        rintro e w4 ⟨rfl, hb4⟩
        have HBF := hide (bnx (bnx (unhide HBT) (unhide HB3)) hb4)
        clear hb4
        go_wp2
        go_roundw
        case rel => exact ⟨k + 1, by omega, by omega, by go_num, HBF⟩
        case measure => simp [intOf] <;> omega
    · by_cases h1 : k < len
      · obtain rfl : k = 6 := by omega
        go_wp2_with (go_at_call 19; refine (wakes8 _ (unhide HGr).1).mono ?_; rintro e w2 ⟨rfl, hb2⟩)
        go_ret
        exact ⟨rfl, bnx (unhide HBEL) hb2⟩
      · obtain rfl : k = len := by omega
        go_wp2_with (go_at_call 19; refine (wakes8 _ (unhide HGr).1).mono ?_; rintro e w2 ⟨rfl, hb2⟩)
        go_ret
        exact ⟨rfl, bnx (unhide HBEL) hb2⟩
theorem laws_walk0 (ao : Option Addr) (cap : Nat) (w : World) (hg : Laid2 w) : Calls Tryz.prog 4 #[.slice ao 0 cap] w fun e w' => e = .returned (.bool true) ∧ Below w.heap.size w w' := by
  go_enter Tryz.func4, Tryz.ntmps4
  go_wp2
  go_loop [3] (fun i => i = .int .i64 0) (fun _ => 0)
  case atStart => rfl
  case round =>
    subst hrel
    go_wp2_with (go_at_call 19; refine (wakes8 _ hg.1).mono ?_; rintro e w2 ⟨rfl, hb2⟩)
    go_ret
    exact ⟨rfl, hb2⟩
end Go.Proofs.YtknbgnoahfeigaaGreatDoor.M
