/- Proved here: the walk of dovecotelaw8.RetainExact: at any asks it returns true. -/
import Derived.Test.YtknbgnoahfeigaaGreatDoorZMLawsP
import Derived.Test.YtknbgnoahfeigaaGreatDoorZMRPutY
import Derived.Test.YtknbgnoahfeigaaGreatDoorZMFil
import Derived.Test.YtknbgnoahfeigaaGreatDoorZMSp
namespace Go.Proofs.YtknbgnoahfeigaaGreatDoor.M
open Go.RowKit
set_option maxRecDepth 100000

theorem ten {w w2 : World} {t : TypeId} {l : List Mg} {lo mo : Option Addr} {lc mc : Nat} {m : Mg} {f : ByteArray} {now : Int} (hb : Below (w.alloc (.cells #[.slice lo l.length lc, .string m.topic, .string m.payload, .int .i64 m.qos, .bool m.ret, .string m.frm, .int .i64 m.untl, .slice mo m.props.length mc, .string f, .int .i64 now] t)).heap.size (w.alloc (.cells #[.slice lo l.length lc, .string m.topic, .string m.payload, .int .i64 m.qos, .bool m.ret, .string m.frm, .int .i64 m.untl, .slice mo m.props.length mc, .string f, .int .i64 now] t)) w2) : w2.cell? ⟨w.heap.size, 0, none⟩ = some (.slice lo l.length lc) ∧ w2.cell? ⟨w.heap.size, 1, none⟩ = some (.string m.topic) ∧ w2.cell? ⟨w.heap.size, 2, none⟩ = some (.string m.payload) ∧ w2.cell? ⟨w.heap.size, 3, none⟩ = some (.int .i64 m.qos) ∧ w2.cell? ⟨w.heap.size, 4, none⟩ = some (.bool m.ret) ∧ w2.cell? ⟨w.heap.size, 5, none⟩ = some (.string m.frm) ∧ w2.cell? ⟨w.heap.size, 6, none⟩ = some (.int .i64 m.untl) ∧ w2.cell? ⟨w.heap.size, 7, none⟩ = some (.slice mo m.props.length mc) ∧ w2.cell? ⟨w.heap.size, 8, none⟩ = some (.string f) ∧ w2.cell? ⟨w.heap.size, 9, none⟩ = some (.int .i64 now) := by
  have hl : w.heap.size < (w.alloc (.cells #[.slice lo l.length lc, .string m.topic, .string m.payload, .int .i64 m.qos, .bool m.ret, .string m.frm, .int .i64 m.untl, .slice mo m.props.length mc, .string f, .int .i64 now] t)).heap.size := by simp
  exact ⟨(hb.cell hl).trans (by simp), (hb.cell hl).trans (by simp), (hb.cell hl).trans (by simp), (hb.cell hl).trans (by simp), (hb.cell hl).trans (by simp), (hb.cell hl).trans (by simp), (hb.cell hl).trans (by simp), (hb.cell hl).trans (by simp), (hb.cell hl).trans (by simp), (hb.cell hl).trans (by simp)⟩
/-- what is laid: errors.errorType, and some number in bytealg.MaxLen -/
def Laid2 (w : World) : Prop := Laid w ∧ Len w
theorem Laid2.up {w w' : World} (h : Laid2 w) (hb : Below w.heap.size w w') : Laid2 w' := ⟨lup h.1 hb, h.2.up hb⟩
theorem mgs_of {w : World} {B : Nat} {v : Value} {qs : List Mq} {l : List Mg} (h : OwnMs w B v qs ∧ qs.map (·.1) = l) : Mgs w v l := by
  have h1 := h.1.mgs
  rw [h.2] at h1
  exact h1
theorem match_yes8 (v : Value) (l : List Mg) (f : ByteArray) (now : Int) (w : World) (hm : mayL l) (hf : mayF f = true) (hmx : l.length ≤ 1000000000) (ht : TopOk l) (h : Mgs w v l) (hln : Len w) : Calls Tryz.prog 14 #[v, .string f, .int .i64 now] w fun e w' => ∃ v' qs, e = .returned (.tuple #[v', .nilIface]) ∧ Hid (OwnMs w' w.heap.size v' qs ∧ qs.map (·.1) = l.filter (fnd f now)) ∧ Below w.heap.size w w' := by
  refine (match_any v l f now w hmx ht h hln (by have := mayF_size hf; omega)).mono ?_
  rintro e w' ⟨⟨_, _, v', qs, rfl, HO⟩ | ⟨hn, _⟩ | ⟨_, hn, _⟩, hb⟩
  · exact ⟨v', qs, rfl, HO, hb⟩
  · exact absurd hm hn
  · rw [hf] at hn; cases hn
/-- an answer: a list of one's own, and an error's number -/
def Ans (n : Int) (L : List Mg) (w : World) (e : Ending) (w' : World) : Prop := ∃ v E qs, e = .returned (.tuple #[v, E]) ∧ Hid (ErrX w' E n) ∧ Hid (OwnMs w' w.heap.size v qs ∧ qs.map (·.1) = L) ∧ Below w.heap.size w w'
theorem ans_no {f : FuncId} {args : Array Value} {w : World} {n : Int} (h : Calls Tryz.prog f args w fun e w' => ∃ x, e = .returned (.tuple #[.slice none 0 0, .iface 76 x]) ∧ Hid (Era w' (.iface 76 x) n) ∧ Below w.heap.size w w') : Calls Tryz.prog f args w (Ans n [] w) := by
  refine h.mono ?_
  rintro e w' ⟨x, rfl, hx, hb⟩
  exact ⟨_, _, [], rfl, .inr (unhide hx), ⟨OwnMs.nil _ _, rfl⟩, hb⟩
theorem ans_yes {f : FuncId} {args : Array Value} {w : World} {L : List Mg} (h : Calls Tryz.prog f args w fun e w' => ∃ v' qs, e = .returned (.tuple #[v', .nilIface]) ∧ Hid (OwnMs w' w.heap.size v' qs ∧ qs.map (·.1) = L) ∧ Below w.heap.size w w') : Calls Tryz.prog f args w (Ans 0 L w) := by
  refine h.mono ?_
  rintro e w' ⟨v', qs, rfl, HO, hb⟩
  exact ⟨_, _, qs, rfl, .inl ⟨rfl, rfl⟩, HO, hb⟩
theorem match_no5 (v : Value) (l : List Mg) (f : ByteArray) (now : Int) (w : World) (hm : mayL l) (hf : mayF f = false) (hmx : l.length ≤ 1000000000) (ht : TopOk l) (h : Mgs w v l) (hln : Len w) (hfs : f.size ≤ 140737488351232) : Calls Tryz.prog 14 #[v, .string f, .int .i64 now] w fun e w' => ∃ x, e = .returned (.tuple #[.slice none 0 0, .iface 76 x]) ∧ Hid (Era w' (.iface 76 x) 5) ∧ Below w.heap.size w w' := by
  refine (match_any v l f now w hmx ht h hln hfs).mono ?_
  rintro e w' ⟨⟨_, hy, _⟩ | ⟨hn, _⟩ | ⟨_, _, x, rfl, hx⟩, hb⟩
  · rw [hf] at hy; cases hy
  · exact absurd hm hn
  · exact ⟨x, rfl, hx, hb⟩
theorem match_no1 (v : Value) (l : List Mg) (f : ByteArray) (now : Int) (w : World) (hm : ¬ mayL l) (hmx : l.length ≤ 1000000000) (ht : TopOk l) (h : Mgs w v l) (hln : Len w) (hfs : f.size ≤ 140737488351232) : Calls Tryz.prog 14 #[v, .string f, .int .i64 now] w fun e w' => ∃ x, e = .returned (.tuple #[.slice none 0 0, .iface 76 x]) ∧ Hid (Era w' (.iface 76 x) 1) ∧ Below w.heap.size w w' := by
  refine (match_any v l f now w hmx ht h hln hfs).mono ?_
  rintro e w' ⟨⟨hy, _⟩ | ⟨_, x, rfl, hx⟩ | ⟨hy, _⟩, hb⟩
  · exact absurd hy hm
  · exact ⟨x, rfl, hx, hb⟩
  · exact absurd hy hm
set_option maxHeartbeats 64000000 in
theorem exact8_walk (b off len cap : Nat) (aks : Nat → Ak) (w : World) (hlen : len ≤ maxLen) (hg : Laid2 w) (hk : AsksIn w b off aks len) : Calls Tryz.prog 3 #[.slice (some ⟨b, off, none⟩) len cap] w fun e w' => e = .returned (.bool true) ∧ Below w.heap.size w w' := by
  have HG := hide hg
  have HA := hide hk
  clear hg hk
  go_enter Tryz.func3, Tryz.ntmps3
  go_wp2
  go_loopw [3] (fun i wr => ∃ k : Nat, k ≤ len ∧ k ≤ 6 ∧ i = .int .i64 k ∧ Hid (Below w.heap.size w wr)) (fun i _ => 6 - (intOf i).toNat)
  case atStart => exact ⟨0, Nat.zero_le _, by omega, rfl, Below.refl _ _⟩
  case round =>
    obtain ⟨k, hk, hk6, rfl, HBEL⟩ := hrel
    have HGr := hide ((unhide HG).up (unhide HBEL))
    by_cases hlt : k < len ∧ k < 6
    · obtain ⟨hlt, hlt6⟩ := hlt
      obtain ⟨lo, lc, mo, mc, hc, hl, hp, htop, hmt, hft, hll⟩ := ((unhide HA) k hlt).below (unhide HBEL)
      generalize aks k = ak at hc hl hp htop hmt hft hll
      obtain ⟨l, m, f, now⟩ := ak
      dsimp only at hc hl hp htop hmt hft hll
      obtain ⟨c0, c1, c2, c3, c4, c5, c6, c7, c8, c9⟩ := hc
      have HL := hide hl
      have HP := hide hp
      have HTP := hide htop
      have HMT := hide hmt
      have HFT := hide hft
      have HHV := hide (fun W (hW : Below wr.heap.size wr W) => heavy_any l lo lc m mo mc f now W (hp.below hW) (hl.below hW) hll)
      clear hl hp htop hmt hft
      go_wp2_with fail
      refine ((unhide HHV) _ ((Below.refl _ _).alloc (Nat.le_refl _) _)).mono ?_
      clear HHV
      rintro e w2 ⟨⟨bo, rfl, hbo⟩, hb2⟩
      have HB2 : Hid (Below wr.heap.size wr w2) := bnx ((Below.refl _ _).alloc (Nat.le_refl _) _) hb2
      cases bo
      case true =>
        clear hbo
        go_wp2
        go_ret
        exact ⟨rfl, bnx (unhide HBEL) (unhide HB2)⟩
      have h100 := hbo rfl
      have HBX := hide hb2
      have HBT := hide (bnx (unhide HBEL) (unhide HB2))
      have HL2 := hide ((unhide HL).below (unhide HB2))
      have HP2 := hide ((unhide HP).below (unhide HB2))
      have HG2 := hide ((unhide HGr).up (unhide HB2))
      obtain ⟨e0, e1, e2, e3, e4, e5, e6, e7, e8, e9⟩ := ten hb2
      clear hb2 c0 c1 c2 c3 c4 c5 c6 c7 c8 c9 HL HP hbo
      by_cases hm : mayL l
      · obtain ⟨kk, hat⟩ := at_ex hm m.topic
        have HAT := hide hat
        clear hat
        go_wp2_with fail
        refine (rmsgs_is _ l true _ (by simp [hm]) (by omega) (unhide HTP) (unhide HL2)).mono ?_
        rintro e w3 ⟨rfl, hb3⟩
        clear e0 e1 e2 e3 e4 e5 e6 e7 e8 e9
        obtain ⟨e0, e1, e2, e3, e4, e5, e6, e7, e8, e9⟩ := ten (bnx (unhide HBX) hb3)
        have HB23 := hide hb3
        have HX3 := hide (bnx (unhide HBX) hb3)
        clear hb3
        go_wp2_with fail
        refine (rput_yes _ l m mo mc kk _ hm (unhide HAT) (by omega) ((unhide HL2).below (unhide HB23)) ((unhide HP2).below (unhide HB23)) (unhide HMT)).mono ?_
        rintro e w4 ⟨vP, qP, rfl, HOP, hb4⟩
        clear e0 e1 e2 e3 e4 e5 e6 e7 e8 e9
        obtain ⟨e0, e1, e2, e3, e4, e5, e6, e7, e8, e9⟩ := ten (bnx (unhide HX3) hb4)
        have HB24 := hide (bnx (unhide HB23) hb4)
        have HX4 := hide (bnx (unhide HX3) hb4)
        have HMP4 := hide (mgs_of (unhide HOP))
        clear hb4 HOP
        go_wp2_with fail
        refine (rdrop_any _ l now _ (by omega) ((unhide HL2).below (unhide HB24))).mono ?_
        rintro e w5 ⟨vD, qD, rfl, HOD, hb5⟩
        clear e0 e1 e2 e3 e4 e5 e6 e7 e8 e9
        obtain ⟨e0, e1, e2, e3, e4, e5, e6, e7, e8, e9⟩ := ten (bnx (unhide HX4) hb5)
        have HB25 := hide (bnx (unhide HB24) hb5)
        have HX5 := hide (bnx (unhide HX4) hb5)
        have HMD5 := hide (mgs_of (unhide HOD))
        have HMP5 := hide ((unhide HMP4).below hb5)
        clear hb5 HOD HMP4
        have hLP := putA_len l m kk
        have hLD := len_filter l (liv now)
        have HPUT : Hid (∀ (W : World) (v : Value) (so : Option Addr) (sc : Nat), Mgs W v l → Pok W so sc m.props → Calls Tryz.prog 12 #[v, mval m (.slice so m.props.length sc)] W (Ans (putN l m kk) (putA l m kk) W)) := fun W v so sc h1 h2 => put_yes v l m so sc kk W hm (unhide HAT) (by omega) (unhide HTP) h1 h2 (unhide HMT)
        have HDRP : Hid (∀ (W : World) (v : Value), Mgs W v l → Calls Tryz.prog 15 #[v, .int .i64 now] W (Ans 0 (l.filter (liv now)) W)) := fun W v h1 => ans_yes (drop_yes v l now W hm (by omega) (unhide HTP) h1)
        generalize putN l m kk = nP at HPUT ⊢
        generalize putA l m kk = LP at HPUT HMP5 hLP
        have HDL : Hid (l.filter (liv now) = l.filter (liv now)) := rfl
        generalize l.filter (liv now) = LD at HDRP HMD5 hLD HDL
        clear HDL
        obtain ⟨nD, hnD⟩ : ∃ nD : Int, nD = 0 := ⟨0, rfl⟩
        rw [← hnD] at HDRP
        subst hnD
        cases hmf : mayF f
        · have HMAT : Hid (∀ (W : World) (v : Value), Mgs W v l → Len W → Calls Tryz.prog 14 #[v, .string f, .int .i64 now] W (Ans 5 [] W)) := fun W v h1 h2 => ans_no (match_no5 v l f now W hm hmf (by omega) (unhide HTP) h1 h2 (unhide HFT))
          go_wp2_with fail
          refine (rfil_no f _ (unhide HFT) hmf).mono ?_
          rintro e w0 ⟨g, ff, ok, rfl, hcase, hb6⟩
          cases ok
          · clear hcase
            have HX0 := hide (bnx (unhide HX5) hb6)
            have HB20 := hide (bnx (unhide HB25) hb6)
            clear e0 e1 e2 e3 e4 e5 e6 e7 e8 e9
            obtain ⟨e0, e1, e2, e3, e4, e5, e6, e7, e8, e9⟩ := ten (bnx (unhide HX5) hb6)
            have HMP := hide ((unhide HMP5).below hb6)
            have HMD := hide ((unhide HMD5).below hb6)
            have HMM := hide (Mgs.nil w0)
            clear hb6
            have hLM : ([] : List Mg).length ≤ l.length := by simp
            go_wp2_with fail
            refine (copyms_any _ l _ ((unhide HL2).below (unhide HB20)) (by first | omega | simp)).mono ?_
            rintro e wA ⟨vx, qx, rfl, HOx, hbA⟩
            have HA0 := hide hbA
            clear e0 e1 e2 e3 e4 e5 e6 e7 e8 e9
            obtain ⟨e0, e1, e2, e3, e4, e5, e6, e7, e8, e9⟩ := ten (bnx (unhide HX0) (hbA))
            have HMxA := hide (mgs_of (unhide HOx))
            clear hbA HOx
            go_wp2_with fail
            refine (copym_any m mo mc _ ((unhide HP2).below (bnx (unhide HB20) (unhide HA0)))).mono ?_
            rintro e wB ⟨sv, rfl, HS, hbB⟩
            obtain ⟨so, sc, rfl⟩ := owns_slice (unhide HS)
            have HB0 := hide (bnx (unhide HA0) hbB)
            have HMxB := hide ((unhide HMxA).below hbB)
            have HLB := hide ((unhide HL2).below (bnx (unhide HB20) (unhide HB0)))
            have HPKB : Hid (Pok wB so sc m.props) := ⟨prp_of_owns (unhide HS), (unhide HP2).2⟩
            clear e0 e1 e2 e3 e4 e5 e6 e7 e8 e9
            obtain ⟨e0, e1, e2, e3, e4, e5, e6, e7, e8, e9⟩ := ten (bnx (unhide HX0) (unhide HB0))
            have HEB := hide e0
            clear hbB HMxA
            go_wp2_with fail
            refine ((unhide HPUT) _ vx so sc (unhide HMxB) (unhide HPKB)).mono ?_
            rintro e wC ⟨va, Ea, qa, rfl, HEa, HOa, hbC⟩
            have HBC := hide hbC
            have hsC := hbC.size
            clear e0 e1 e2 e3 e4 e5 e6 e7 e8 e9
            obtain ⟨e0, e1, e2, e3, e4, e5, e6, e7, e8, e9⟩ := ten (bnx (unhide HX0) (bnx (unhide HB0) (unhide HBC)))
            clear hbC
            go_wp2_with fail
            refine ((unhide HMAT) _ vx ((unhide HMxB).below (unhide HBC)) ((unhide HG2).up (bnx (unhide HB20) (bnx (unhide HB0) (unhide HBC)))).2).mono ?_
            rintro e wD ⟨vb, Eb, qb, rfl, HEb, HOb, hbD⟩
            have HCD := hide hbD
            have HBD := hide (bnx (unhide HBC) hbD)
            have hsD := hbD.size
            clear e0 e1 e2 e3 e4 e5 e6 e7 e8 e9
            obtain ⟨e0, e1, e2, e3, e4, e5, e6, e7, e8, e9⟩ := ten (bnx (unhide HX0) (bnx (unhide HB0) (unhide HBD)))
            clear hbD
            go_wp2_with fail
            refine ((unhide HDRP) _ vx ((unhide HMxB).below (unhide HBD))).mono ?_
            rintro e wE ⟨vc, Ec, qc, rfl, HEc, HOc, hbE⟩
            have HDE := hide hbE
            have HCE := hide (bnx (unhide HCD) hbE)
            have HBE := hide (bnx (unhide HBD) hbE)
            have hsE := hbE.size
            have HG6 := hide ((unhide HG2).up (bnx (unhide HB20) (bnx (unhide HB0) (unhide HBE))))
            have HPE := hide ((unhide HMP).below (bnx (unhide HB0) (unhide HBE)))
            have HME := hide ((unhide HMM).below (bnx (unhide HB0) (unhide HBE)))
            have HDDE := hide ((unhide HMD).below (bnx (unhide HB0) (unhide HBE)))
            clear e0 e1 e2 e3 e4 e5 e6 e7 e8 e9
            clear hbE
            have HMaE := hide ((mgs_of (unhide HOa)).below (unhide HCE))
            have HMbE := hide ((mgs_of (unhide HOb)).below (unhide HDE))
            have HMcE := hide (mgs_of (unhide HOc))
            go_wp2_with fail
            refine (num8 _ nP _ (unhide HG6).1 ((unhide HEa).below (unhide HCE))).mono ?_
            rintro e wF ⟨rfl, hbq⟩
            have HEF := hide (hbq)
            clear hbq
            go_wp2_with fail
            refine (eqms_same _ _ LP _ ((unhide HMaE).below (unhide HEF)) ((unhide HPE).below (unhide HEF)) (by first | omega | simp)).mono ?_
            rintro e wG ⟨rfl, hbq⟩
            have HEG := hide (bnx (unhide HEF) hbq)
            clear hbq
            go_wp2_with fail
            refine (num8 _ 5 _ ((unhide HG6).up (unhide HEG)).1 ((unhide HEb).below (bnx (unhide HDE) (unhide HEG)))).mono ?_
            rintro e wH ⟨rfl, hbq⟩
            have HEH := hide (bnx (unhide HEG) hbq)
            clear hbq
            go_wp2_with fail
            refine (eqms_same _ _ [] _ ((unhide HMbE).below (unhide HEH)) ((unhide HME).below (unhide HEH)) (by first | omega | simp)).mono ?_
            rintro e wI ⟨rfl, hbq⟩
            have HEI := hide (bnx (unhide HEH) hbq)
            clear hbq
            go_wp2_with fail
            refine (num8 _ 0 _ ((unhide HG6).up (unhide HEI)).1 ((unhide HEc).below (bnx (Below.refl _ _) (unhide HEI)))).mono ?_
            rintro e wJ ⟨rfl, hbq⟩
            have HEJ := hide (bnx (unhide HEI) hbq)
            clear hbq
            go_wp2_with fail
            refine (eqms_same _ _ LD _ ((unhide HMcE).below (unhide HEJ)) ((unhide HDDE).below (unhide HEJ)) (by first | omega | simp)).mono ?_
            rintro e wK ⟨rfl, hbq⟩
            have HEK := hide (bnx (unhide HEJ) hbq)
            clear hbq
            have e0 := ((bnx (unhide HBE) (unhide HEK)).cell (cell_lt (unhide HEB))).trans (unhide HEB)
            go_wp2_with fail
            refine (eqms_same _ _ l _ (((unhide HMxB).below (unhide HBE)).below (unhide HEK)) (((unhide HLB).below (unhide HBE)).below (unhide HEK)) (by first | omega | simp)).mono ?_
            rintro e wL ⟨rfl, hbq⟩
            have HEL := hide (bnx (unhide HEK) hbq)
            clear hbq
            clear e0
            have hsL := (unhide HEL).size
            have HOaL := hide ((unhide HOa).1.below (bnx (unhide HCE) (unhide HEL)))
            have HObL := hide ((unhide HOb).1.below (bnx (unhide HDE) (unhide HEL)))
            have HOcL := hide ((unhide HOc).1.below (unhide HEL))
            have HUa := hide (unhide HOa).1.under
            have HUb := hide (unhide HOb).1.under
            have HUc := hide (unhide HOc).1.under
            have hqa : qa.length ≤ 1000000 := by have h := congrArg List.length (unhide HOa).2; rw [List.length_map] at h; omega
            have hqb : qb.length ≤ 1000000 := by have h := congrArg List.length (unhide HOb).2; rw [List.length_map] at h; omega
            have hqc : qc.length ≤ 1000000 := by have h := congrArg List.length (unhide HOc).2; rw [List.length_map] at h; omega
            go_wp2_with fail
            refine (messages_sp _ _ _ _ _ (by omega) hqa (unhide HOaL) (unhide HUa)).mono ?_
            rintro e wM ⟨rfl, hsf⟩
            have HSM := hide hsf
            have hsM := hsf.size
            have HObM := hide ((unhide HObL).sf hsf (by omega))
            have HOcM := hide ((unhide HOcL).sf hsf (by omega))
            clear hsf
            go_wp2_with fail
            refine (messages_sp _ _ _ _ _ (by omega) hqb (unhide HObM) (unhide HUb)).mono ?_
            rintro e wN ⟨rfl, hsf⟩
            have HSN := hide hsf
            have hsN := hsf.size
            have HOcN := hide ((unhide HOcM).sf hsf (by omega))
            clear hsf
            go_wp2_with fail
            refine (messages_sp _ _ _ _ _ (by omega) hqc (unhide HOcN) (unhide HUc)).mono ?_
            rintro e wO ⟨rfl, hsf⟩
            have HSO := hide hsf
            clear hsf
            have HBO : Hid (Below wB.heap.size wB wO) := (((bnx (unhide HBE) (unhide HEL)).trans (unhide HSM).below).trans ((unhide HSN).below.mono (by omega))).trans ((unhide HSO).below.mono (by omega))
            have e0 := ((unhide HBO).cell (cell_lt (unhide HEB))).trans (unhide HEB)
            go_wp2_with fail
            refine (eqms_same _ _ l _ ((unhide HMxB).below (unhide HBO)) ((unhide HLB).below (unhide HBO)) (by first | omega | simp)).mono ?_
            rintro e wQ ⟨rfl, hbq⟩
            have HBF := hide (bnx (bnx (unhide HBT) (bnx (unhide HB20) (unhide HB0))) (bnx (unhide HBO) hbq))
            clear hbq e0
            go_wp2
            go_roundw
            case rel => exact ⟨k + 1, by omega, by omega, by go_num, HBF⟩
            case measure => simp [intOf] <;> omega
          · have hge : g.toList.isEmpty = false := by rcases hcase with h | h; (cases h); (exact h)
            clear hcase
            have HX0 := hide (bnx (unhide HX5) hb6)
            have HB20 := hide (bnx (unhide HB25) hb6)
            clear e0 e1 e2 e3 e4 e5 e6 e7 e8 e9
            obtain ⟨e0, e1, e2, e3, e4, e5, e6, e7, e8, e9⟩ := ten (bnx (unhide HX5) hb6)
            have HMP := hide ((unhide HMP5).below hb6)
            have HMD := hide ((unhide HMD5).below hb6)
            have HMM := hide (Mgs.nil w0)
            clear hb6
            have hLM : ([] : List Mg).length ≤ l.length := by simp
            go_wp2_with fail
            refine (copyms_any _ l _ ((unhide HL2).below (unhide HB20)) (by first | omega | simp)).mono ?_
            rintro e wA ⟨vx, qx, rfl, HOx, hbA⟩
            have HA0 := hide hbA
            clear e0 e1 e2 e3 e4 e5 e6 e7 e8 e9
            obtain ⟨e0, e1, e2, e3, e4, e5, e6, e7, e8, e9⟩ := ten (bnx (unhide HX0) (hbA))
            have HMxA := hide (mgs_of (unhide HOx))
            clear hbA HOx
            go_wp2_with fail
            refine (copym_any m mo mc _ ((unhide HP2).below (bnx (unhide HB20) (unhide HA0)))).mono ?_
            rintro e wB ⟨sv, rfl, HS, hbB⟩
            obtain ⟨so, sc, rfl⟩ := owns_slice (unhide HS)
            have HB0 := hide (bnx (unhide HA0) hbB)
            have HMxB := hide ((unhide HMxA).below hbB)
            have HLB := hide ((unhide HL2).below (bnx (unhide HB20) (unhide HB0)))
            have HPKB : Hid (Pok wB so sc m.props) := ⟨prp_of_owns (unhide HS), (unhide HP2).2⟩
            clear e0 e1 e2 e3 e4 e5 e6 e7 e8 e9
            obtain ⟨e0, e1, e2, e3, e4, e5, e6, e7, e8, e9⟩ := ten (bnx (unhide HX0) (unhide HB0))
            have HEB := hide e0
            clear hbB HMxA
            go_wp2_with fail
            refine ((unhide HPUT) _ vx so sc (unhide HMxB) (unhide HPKB)).mono ?_
            rintro e wC ⟨va, Ea, qa, rfl, HEa, HOa, hbC⟩
            have HBC := hide hbC
            have hsC := hbC.size
            clear e0 e1 e2 e3 e4 e5 e6 e7 e8 e9
            obtain ⟨e0, e1, e2, e3, e4, e5, e6, e7, e8, e9⟩ := ten (bnx (unhide HX0) (bnx (unhide HB0) (unhide HBC)))
            clear hbC
            go_wp2_with fail
            refine ((unhide HMAT) _ vx ((unhide HMxB).below (unhide HBC)) ((unhide HG2).up (bnx (unhide HB20) (bnx (unhide HB0) (unhide HBC)))).2).mono ?_
            rintro e wD ⟨vb, Eb, qb, rfl, HEb, HOb, hbD⟩
            have HCD := hide hbD
            have HBD := hide (bnx (unhide HBC) hbD)
            have hsD := hbD.size
            clear e0 e1 e2 e3 e4 e5 e6 e7 e8 e9
            obtain ⟨e0, e1, e2, e3, e4, e5, e6, e7, e8, e9⟩ := ten (bnx (unhide HX0) (bnx (unhide HB0) (unhide HBD)))
            clear hbD
            go_wp2_with fail
            refine ((unhide HDRP) _ vx ((unhide HMxB).below (unhide HBD))).mono ?_
            rintro e wE ⟨vc, Ec, qc, rfl, HEc, HOc, hbE⟩
            have HDE := hide hbE
            have HCE := hide (bnx (unhide HCD) hbE)
            have HBE := hide (bnx (unhide HBD) hbE)
            have hsE := hbE.size
            have HG6 := hide ((unhide HG2).up (bnx (unhide HB20) (bnx (unhide HB0) (unhide HBE))))
            have HPE := hide ((unhide HMP).below (bnx (unhide HB0) (unhide HBE)))
            have HME := hide ((unhide HMM).below (bnx (unhide HB0) (unhide HBE)))
            have HDDE := hide ((unhide HMD).below (bnx (unhide HB0) (unhide HBE)))
            clear e0 e1 e2 e3 e4 e5 e6 e7 e8 e9
            clear hbE
            have HMaE := hide ((mgs_of (unhide HOa)).below (unhide HCE))
            have HMbE := hide ((mgs_of (unhide HOb)).below (unhide HDE))
            have HMcE := hide (mgs_of (unhide HOc))
            go_wp2_with fail
            refine (num8 _ nP _ (unhide HG6).1 ((unhide HEa).below (unhide HCE))).mono ?_
            rintro e wF ⟨rfl, hbq⟩
            have HEF := hide (hbq)
            clear hbq
            go_wp2_with fail
            refine (eqms_same _ _ LP _ ((unhide HMaE).below (unhide HEF)) ((unhide HPE).below (unhide HEF)) (by first | omega | simp)).mono ?_
            rintro e wG ⟨rfl, hbq⟩
            have HEG := hide (bnx (unhide HEF) hbq)
            clear hbq
            go_wp2_with fail
            refine (num8 _ 5 _ ((unhide HG6).up (unhide HEG)).1 ((unhide HEb).below (bnx (unhide HDE) (unhide HEG)))).mono ?_
            rintro e wH ⟨rfl, hbq⟩
            have HEH := hide (bnx (unhide HEG) hbq)
            clear hbq
            go_wp2_with fail
            refine (eqms_same _ _ [] _ ((unhide HMbE).below (unhide HEH)) ((unhide HME).below (unhide HEH)) (by first | omega | simp)).mono ?_
            rintro e wI ⟨rfl, hbq⟩
            have HEI := hide (bnx (unhide HEH) hbq)
            clear hbq
            go_wp2_with fail
            refine (num8 _ 0 _ ((unhide HG6).up (unhide HEI)).1 ((unhide HEc).below (bnx (Below.refl _ _) (unhide HEI)))).mono ?_
            rintro e wJ ⟨rfl, hbq⟩
            have HEJ := hide (bnx (unhide HEI) hbq)
            clear hbq
            go_wp2_with fail
            refine (eqms_same _ _ LD _ ((unhide HMcE).below (unhide HEJ)) ((unhide HDDE).below (unhide HEJ)) (by first | omega | simp)).mono ?_
            rintro e wK ⟨rfl, hbq⟩
            have HEK := hide (bnx (unhide HEJ) hbq)
            clear hbq
            have e0 := ((bnx (unhide HBE) (unhide HEK)).cell (cell_lt (unhide HEB))).trans (unhide HEB)
            go_wp2_with fail
            refine (eqms_same _ _ l _ (((unhide HMxB).below (unhide HBE)).below (unhide HEK)) (((unhide HLB).below (unhide HBE)).below (unhide HEK)) (by first | omega | simp)).mono ?_
            rintro e wL ⟨rfl, hbq⟩
            have HEL := hide (bnx (unhide HEK) hbq)
            clear hbq
            clear e0
            have hsL := (unhide HEL).size
            have HOaL := hide ((unhide HOa).1.below (bnx (unhide HCE) (unhide HEL)))
            have HObL := hide ((unhide HOb).1.below (bnx (unhide HDE) (unhide HEL)))
            have HOcL := hide ((unhide HOc).1.below (unhide HEL))
            have HUa := hide (unhide HOa).1.under
            have HUb := hide (unhide HOb).1.under
            have HUc := hide (unhide HOc).1.under
            have hqa : qa.length ≤ 1000000 := by have h := congrArg List.length (unhide HOa).2; rw [List.length_map] at h; omega
            have hqb : qb.length ≤ 1000000 := by have h := congrArg List.length (unhide HOb).2; rw [List.length_map] at h; omega
            have hqc : qc.length ≤ 1000000 := by have h := congrArg List.length (unhide HOc).2; rw [List.length_map] at h; omega
            go_wp2_with fail
            refine (messages_sp _ _ _ _ _ (by omega) hqa (unhide HOaL) (unhide HUa)).mono ?_
            rintro e wM ⟨rfl, hsf⟩
            have HSM := hide hsf
            have hsM := hsf.size
            have HObM := hide ((unhide HObL).sf hsf (by omega))
            have HOcM := hide ((unhide HOcL).sf hsf (by omega))
            clear hsf
            go_wp2_with fail
            refine (messages_sp _ _ _ _ _ (by omega) hqb (unhide HObM) (unhide HUb)).mono ?_
            rintro e wN ⟨rfl, hsf⟩
            have HSN := hide hsf
            have hsN := hsf.size
            have HOcN := hide ((unhide HOcM).sf hsf (by omega))
            clear hsf
            go_wp2_with fail
            refine (messages_sp _ _ _ _ _ (by omega) hqc (unhide HOcN) (unhide HUc)).mono ?_
            rintro e wO ⟨rfl, hsf⟩
            have HSO := hide hsf
            clear hsf
            have HBO : Hid (Below wB.heap.size wB wO) := (((bnx (unhide HBE) (unhide HEL)).trans (unhide HSM).below).trans ((unhide HSN).below.mono (by omega))).trans ((unhide HSO).below.mono (by omega))
            have e0 := ((unhide HBO).cell (cell_lt (unhide HEB))).trans (unhide HEB)
            go_wp2_with fail
            refine (eqms_same _ _ l _ ((unhide HMxB).below (unhide HBO)) ((unhide HLB).below (unhide HBO)) (by first | omega | simp)).mono ?_
            rintro e wQ ⟨rfl, hbq⟩
            have HBF := hide (bnx (bnx (unhide HBT) (bnx (unhide HB20) (unhide HB0))) (bnx (unhide HBO) hbq))
            clear hbq e0
            go_wp2
            go_roundw
            case rel => exact ⟨k + 1, by omega, by omega, by go_num, HBF⟩
            case measure => simp [intOf] <;> omega
        · go_wp2_with fail
          refine (rfil_yes f _ hmf).mono ?_
          rintro e w6 ⟨rfl, hb6⟩
          clear e0 e1 e2 e3 e4 e5 e6 e7 e8 e9
          obtain ⟨e0, e1, e2, e3, e4, e5, e6, e7, e8, e9⟩ := ten (bnx (unhide HX5) hb6)
          have HB26 := hide (bnx (unhide HB25) hb6)
          have HX6 := hide (bnx (unhide HX5) hb6)
          have HMP6 := hide ((unhide HMP5).below hb6)
          have HMD6 := hide ((unhide HMD5).below hb6)
          clear hb6
          go_wp2_with fail
          refine (rmatches_any _ l f now _ (by omega) hm (by have := mayF_size hmf; omega) ((unhide HL2).below (unhide HB26))).mono ?_
          rintro e w0 ⟨vM, qM, rfl, HOM, hb0⟩
          clear e0 e1 e2 e3 e4 e5 e6 e7 e8 e9
          obtain ⟨e0, e1, e2, e3, e4, e5, e6, e7, e8, e9⟩ := ten (bnx (unhide HX6) hb0)
          have HB20 := hide (bnx (unhide HB26) hb0)
          have HX0 := hide (bnx (unhide HX6) hb0)
          have HMP := hide ((unhide HMP6).below hb0)
          have HMD := hide ((unhide HMD6).below hb0)
          have HMM := hide (mgs_of (unhide HOM))
          clear hb0 HOM
          have hLM := len_filter l (fnd f now)
          have HMAT : Hid (∀ (W : World) (v : Value), Mgs W v l → Len W → Calls Tryz.prog 14 #[v, .string f, .int .i64 now] W (Ans 0 (l.filter (fnd f now)) W)) := fun W v h1 h2 => ans_yes (match_yes8 v l f now W hm hmf (by omega) (unhide HTP) h1 h2)
          generalize l.filter (fnd f now) = LM at HMAT HMM hLM
          go_wp2_with fail
          refine (copyms_any _ l _ ((unhide HL2).below (unhide HB20)) (by omega)).mono ?_
          rintro e wA ⟨vx, qx, rfl, HOx, hbA⟩
          have HA0 := hide hbA
          clear e0 e1 e2 e3 e4 e5 e6 e7 e8 e9
          obtain ⟨e0, e1, e2, e3, e4, e5, e6, e7, e8, e9⟩ := ten (bnx (unhide HX0) (hbA))
          have HMxA := hide (mgs_of (unhide HOx))
          clear hbA HOx
          go_wp2_with fail
          refine (copym_any m mo mc _ ((unhide HP2).below (bnx (unhide HB20) (unhide HA0)))).mono ?_
          rintro e wB ⟨sv, rfl, HS, hbB⟩
          obtain ⟨so, sc, rfl⟩ := owns_slice (unhide HS)
          have HB0 := hide (bnx (unhide HA0) hbB)
          have HMxB := hide ((unhide HMxA).below hbB)
          have HLB := hide ((unhide HL2).below (bnx (unhide HB20) (unhide HB0)))
          have HPKB : Hid (Pok wB so sc m.props) := ⟨prp_of_owns (unhide HS), (unhide HP2).2⟩
          clear e0 e1 e2 e3 e4 e5 e6 e7 e8 e9
          obtain ⟨e0, e1, e2, e3, e4, e5, e6, e7, e8, e9⟩ := ten (bnx (unhide HX0) (unhide HB0))
          have HEB := hide e0
          clear hbB HMxA
          go_wp2_with fail
          refine ((unhide HPUT) _ vx so sc (unhide HMxB) (unhide HPKB)).mono ?_
          rintro e wC ⟨va, Ea, qa, rfl, HEa, HOa, hbC⟩
          have HBC := hide hbC
          have hsC := hbC.size
          clear e0 e1 e2 e3 e4 e5 e6 e7 e8 e9
          obtain ⟨e0, e1, e2, e3, e4, e5, e6, e7, e8, e9⟩ := ten (bnx (unhide HX0) (bnx (unhide HB0) (unhide HBC)))
          clear hbC
          go_wp2_with fail
          refine ((unhide HMAT) _ vx ((unhide HMxB).below (unhide HBC)) ((unhide HG2).up (bnx (unhide HB20) (bnx (unhide HB0) (unhide HBC)))).2).mono ?_
          rintro e wD ⟨vb, Eb, qb, rfl, HEb, HOb, hbD⟩
          have HCD := hide hbD
          have HBD := hide (bnx (unhide HBC) hbD)
          have hsD := hbD.size
          clear e0 e1 e2 e3 e4 e5 e6 e7 e8 e9
          obtain ⟨e0, e1, e2, e3, e4, e5, e6, e7, e8, e9⟩ := ten (bnx (unhide HX0) (bnx (unhide HB0) (unhide HBD)))
          clear hbD
          go_wp2_with fail
          refine ((unhide HDRP) _ vx ((unhide HMxB).below (unhide HBD))).mono ?_
          rintro e wE ⟨vc, Ec, qc, rfl, HEc, HOc, hbE⟩
          have HDE := hide hbE
          have HCE := hide (bnx (unhide HCD) hbE)
          have HBE := hide (bnx (unhide HBD) hbE)
          have hsE := hbE.size
          have HG6 := hide ((unhide HG2).up (bnx (unhide HB20) (bnx (unhide HB0) (unhide HBE))))
          have HPE := hide ((unhide HMP).below (bnx (unhide HB0) (unhide HBE)))
          have HME := hide ((unhide HMM).below (bnx (unhide HB0) (unhide HBE)))
          have HDDE := hide ((unhide HMD).below (bnx (unhide HB0) (unhide HBE)))
          clear e0 e1 e2 e3 e4 e5 e6 e7 e8 e9
          clear hbE
          have HMaE := hide ((mgs_of (unhide HOa)).below (unhide HCE))
          have HMbE := hide ((mgs_of (unhide HOb)).below (unhide HDE))
          have HMcE := hide (mgs_of (unhide HOc))
          go_wp2_with fail
          refine (num8 _ nP _ (unhide HG6).1 ((unhide HEa).below (unhide HCE))).mono ?_
          rintro e wF ⟨rfl, hbq⟩
          have HEF := hide (hbq)
          clear hbq
          go_wp2_with fail
          refine (eqms_same _ _ LP _ ((unhide HMaE).below (unhide HEF)) ((unhide HPE).below (unhide HEF)) (by omega)).mono ?_
          rintro e wG ⟨rfl, hbq⟩
          have HEG := hide (bnx (unhide HEF) hbq)
          clear hbq
          go_wp2_with fail
          refine (num8 _ 0 _ ((unhide HG6).up (unhide HEG)).1 ((unhide HEb).below (bnx (unhide HDE) (unhide HEG)))).mono ?_
          rintro e wH ⟨rfl, hbq⟩
          have HEH := hide (bnx (unhide HEG) hbq)
          clear hbq
          go_wp2_with fail
          refine (eqms_same _ _ LM _ ((unhide HMbE).below (unhide HEH)) ((unhide HME).below (unhide HEH)) (by omega)).mono ?_
          rintro e wI ⟨rfl, hbq⟩
          have HEI := hide (bnx (unhide HEH) hbq)
          clear hbq
          go_wp2_with fail
          refine (num8 _ 0 _ ((unhide HG6).up (unhide HEI)).1 ((unhide HEc).below (bnx (Below.refl _ _) (unhide HEI)))).mono ?_
          rintro e wJ ⟨rfl, hbq⟩
          have HEJ := hide (bnx (unhide HEI) hbq)
          clear hbq
          go_wp2_with fail
          refine (eqms_same _ _ LD _ ((unhide HMcE).below (unhide HEJ)) ((unhide HDDE).below (unhide HEJ)) (by omega)).mono ?_
          rintro e wK ⟨rfl, hbq⟩
          have HEK := hide (bnx (unhide HEJ) hbq)
          clear hbq
          have e0 := ((bnx (unhide HBE) (unhide HEK)).cell (cell_lt (unhide HEB))).trans (unhide HEB)
          go_wp2_with fail
          refine (eqms_same _ _ l _ (((unhide HMxB).below (unhide HBE)).below (unhide HEK)) (((unhide HLB).below (unhide HBE)).below (unhide HEK)) (by omega)).mono ?_
          rintro e wL ⟨rfl, hbq⟩
          have HEL := hide (bnx (unhide HEK) hbq)
          clear hbq
          clear e0
          have hsL := (unhide HEL).size
          have HOaL := hide ((unhide HOa).1.below (bnx (unhide HCE) (unhide HEL)))
          have HObL := hide ((unhide HOb).1.below (bnx (unhide HDE) (unhide HEL)))
          have HOcL := hide ((unhide HOc).1.below (unhide HEL))
          have HUa := hide (unhide HOa).1.under
          have HUb := hide (unhide HOb).1.under
          have HUc := hide (unhide HOc).1.under
          have hqa : qa.length ≤ 1000000 := by have h := congrArg List.length (unhide HOa).2; rw [List.length_map] at h; omega
          have hqb : qb.length ≤ 1000000 := by have h := congrArg List.length (unhide HOb).2; rw [List.length_map] at h; omega
          have hqc : qc.length ≤ 1000000 := by have h := congrArg List.length (unhide HOc).2; rw [List.length_map] at h; omega
          go_wp2_with fail
          refine (messages_sp _ _ _ _ _ (by omega) hqa (unhide HOaL) (unhide HUa)).mono ?_
          rintro e wM ⟨rfl, hsf⟩
          have HSM := hide hsf
          have hsM := hsf.size
          have HObM := hide ((unhide HObL).sf hsf (by omega))
          have HOcM := hide ((unhide HOcL).sf hsf (by omega))
          clear hsf
          go_wp2_with fail
          refine (messages_sp _ _ _ _ _ (by omega) hqb (unhide HObM) (unhide HUb)).mono ?_
          rintro e wN ⟨rfl, hsf⟩
          have HSN := hide hsf
          have hsN := hsf.size
          have HOcN := hide ((unhide HOcM).sf hsf (by omega))
          clear hsf
          go_wp2_with fail
          refine (messages_sp _ _ _ _ _ (by omega) hqc (unhide HOcN) (unhide HUc)).mono ?_
          rintro e wO ⟨rfl, hsf⟩
          have HSO := hide hsf
          clear hsf
          have HBO : Hid (Below wB.heap.size wB wO) := (((bnx (unhide HBE) (unhide HEL)).trans (unhide HSM).below).trans ((unhide HSN).below.mono (by omega))).trans ((unhide HSO).below.mono (by omega))
          have e0 := ((unhide HBO).cell (cell_lt (unhide HEB))).trans (unhide HEB)
          go_wp2_with fail
          refine (eqms_same _ _ l _ ((unhide HMxB).below (unhide HBO)) ((unhide HLB).below (unhide HBO)) (by omega)).mono ?_
          rintro e wQ ⟨rfl, hbq⟩
          have HBF := hide (bnx (bnx (unhide HBT) (bnx (unhide HB20) (unhide HB0))) (bnx (unhide HBO) hbq))
          clear hbq e0
          go_wp2
          go_roundw
          case rel => exact ⟨k + 1, by omega, by omega, by go_num, HBF⟩
          case measure => simp [intOf] <;> omega
      · go_wp2_with fail
        refine (rmsgs_is _ l false _ (by simp [hm]) (by omega) (unhide HTP) (unhide HL2)).mono ?_
        rintro e w0 ⟨rfl, hb3⟩
        clear e0 e1 e2 e3 e4 e5 e6 e7 e8 e9
        obtain ⟨e0, e1, e2, e3, e4, e5, e6, e7, e8, e9⟩ := ten (bnx (unhide HBX) hb3)
        have HB20 := hide hb3
        have HX0 := hide (bnx (unhide HBX) hb3)
        clear hb3
        have HMP := hide (Mgs.nil w0)
        have HMM := hide (Mgs.nil w0)
        have HMD := hide (Mgs.nil w0)
        have HPUT : Hid (∀ (W : World) (v : Value) (so : Option Addr) (sc : Nat), Mgs W v l → Pok W so sc m.props → Calls Tryz.prog 12 #[v, mval m (.slice so m.props.length sc)] W (Ans 1 [] W)) := fun W v so sc h1 h2 => ans_no (put_no v l m so sc W hm (by omega) (unhide HTP) h1 h2 (unhide HMT))
        have HMAT : Hid (∀ (W : World) (v : Value), Mgs W v l → Len W → Calls Tryz.prog 14 #[v, .string f, .int .i64 now] W (Ans 1 [] W)) := fun W v h1 h2 => ans_no (match_no1 v l f now W hm (by omega) (unhide HTP) h1 h2 (unhide HFT))
        have HDRP : Hid (∀ (W : World) (v : Value), Mgs W v l → Calls Tryz.prog 15 #[v, .int .i64 now] W (Ans 1 [] W)) := fun W v h1 => ans_no (drop_no v l now W hm (by omega) (unhide HTP) h1)
        go_wp2_with fail
        refine (copyms_any _ l _ ((unhide HL2).below (unhide HB20)) (by first | omega | simp)).mono ?_
        rintro e wA ⟨vx, qx, rfl, HOx, hbA⟩
        have HA0 := hide hbA
        clear e0 e1 e2 e3 e4 e5 e6 e7 e8 e9
        obtain ⟨e0, e1, e2, e3, e4, e5, e6, e7, e8, e9⟩ := ten (bnx (unhide HX0) (hbA))
        have HMxA := hide (mgs_of (unhide HOx))
        clear hbA HOx
        go_wp2_with fail
        refine (copym_any m mo mc _ ((unhide HP2).below (bnx (unhide HB20) (unhide HA0)))).mono ?_
        rintro e wB ⟨sv, rfl, HS, hbB⟩
        obtain ⟨so, sc, rfl⟩ := owns_slice (unhide HS)
        have HB0 := hide (bnx (unhide HA0) hbB)
        have HMxB := hide ((unhide HMxA).below hbB)
        have HLB := hide ((unhide HL2).below (bnx (unhide HB20) (unhide HB0)))
        have HPKB : Hid (Pok wB so sc m.props) := ⟨prp_of_owns (unhide HS), (unhide HP2).2⟩
        clear e0 e1 e2 e3 e4 e5 e6 e7 e8 e9
        obtain ⟨e0, e1, e2, e3, e4, e5, e6, e7, e8, e9⟩ := ten (bnx (unhide HX0) (unhide HB0))
        have HEB := hide e0
        clear hbB HMxA
        go_wp2_with fail
        refine ((unhide HPUT) _ vx so sc (unhide HMxB) (unhide HPKB)).mono ?_
        rintro e wC ⟨va, Ea, qa, rfl, HEa, HOa, hbC⟩
        have HBC := hide hbC
        have hsC := hbC.size
        clear e0 e1 e2 e3 e4 e5 e6 e7 e8 e9
        obtain ⟨e0, e1, e2, e3, e4, e5, e6, e7, e8, e9⟩ := ten (bnx (unhide HX0) (bnx (unhide HB0) (unhide HBC)))
        clear hbC
        go_wp2_with fail
        refine ((unhide HMAT) _ vx ((unhide HMxB).below (unhide HBC)) ((unhide HG2).up (bnx (unhide HB20) (bnx (unhide HB0) (unhide HBC)))).2).mono ?_
        rintro e wD ⟨vb, Eb, qb, rfl, HEb, HOb, hbD⟩
        have HCD := hide hbD
        have HBD := hide (bnx (unhide HBC) hbD)
        have hsD := hbD.size
        clear e0 e1 e2 e3 e4 e5 e6 e7 e8 e9
        obtain ⟨e0, e1, e2, e3, e4, e5, e6, e7, e8, e9⟩ := ten (bnx (unhide HX0) (bnx (unhide HB0) (unhide HBD)))
        clear hbD
        go_wp2_with fail
        refine ((unhide HDRP) _ vx ((unhide HMxB).below (unhide HBD))).mono ?_
        rintro e wE ⟨vc, Ec, qc, rfl, HEc, HOc, hbE⟩
        have HDE := hide hbE
        have HCE := hide (bnx (unhide HCD) hbE)
        have HBE := hide (bnx (unhide HBD) hbE)
        have hsE := hbE.size
        have HG6 := hide ((unhide HG2).up (bnx (unhide HB20) (bnx (unhide HB0) (unhide HBE))))
        have HPE := hide ((unhide HMP).below (bnx (unhide HB0) (unhide HBE)))
        have HME := hide ((unhide HMM).below (bnx (unhide HB0) (unhide HBE)))
        have HDDE := hide ((unhide HMD).below (bnx (unhide HB0) (unhide HBE)))
        clear e0 e1 e2 e3 e4 e5 e6 e7 e8 e9
        clear hbE
        have HMaE := hide ((mgs_of (unhide HOa)).below (unhide HCE))
        have HMbE := hide ((mgs_of (unhide HOb)).below (unhide HDE))
        have HMcE := hide (mgs_of (unhide HOc))
        go_wp2_with fail
        refine (num8 _ 1 _ (unhide HG6).1 ((unhide HEa).below (unhide HCE))).mono ?_
        rintro e wF ⟨rfl, hbq⟩
        have HEF := hide (hbq)
        clear hbq
        go_wp2_with fail
        refine (eqms_same _ _ [] _ ((unhide HMaE).below (unhide HEF)) ((unhide HPE).below (unhide HEF)) (by first | omega | simp)).mono ?_
        rintro e wG ⟨rfl, hbq⟩
        have HEG := hide (bnx (unhide HEF) hbq)
        clear hbq
        go_wp2_with fail
        refine (num8 _ 1 _ ((unhide HG6).up (unhide HEG)).1 ((unhide HEb).below (bnx (unhide HDE) (unhide HEG)))).mono ?_
        rintro e wH ⟨rfl, hbq⟩
        have HEH := hide (bnx (unhide HEG) hbq)
        clear hbq
        go_wp2_with fail
        refine (eqms_same _ _ [] _ ((unhide HMbE).below (unhide HEH)) ((unhide HME).below (unhide HEH)) (by first | omega | simp)).mono ?_
        rintro e wI ⟨rfl, hbq⟩
        have HEI := hide (bnx (unhide HEH) hbq)
        clear hbq
        go_wp2_with fail
        refine (num8 _ 1 _ ((unhide HG6).up (unhide HEI)).1 ((unhide HEc).below (bnx (Below.refl _ _) (unhide HEI)))).mono ?_
        rintro e wJ ⟨rfl, hbq⟩
        have HEJ := hide (bnx (unhide HEI) hbq)
        clear hbq
        go_wp2_with fail
        refine (eqms_same _ _ [] _ ((unhide HMcE).below (unhide HEJ)) ((unhide HDDE).below (unhide HEJ)) (by first | omega | simp)).mono ?_
        rintro e wK ⟨rfl, hbq⟩
        have HEK := hide (bnx (unhide HEJ) hbq)
        clear hbq
        have e0 := ((bnx (unhide HBE) (unhide HEK)).cell (cell_lt (unhide HEB))).trans (unhide HEB)
        go_wp2_with fail
        refine (eqms_same _ _ l _ (((unhide HMxB).below (unhide HBE)).below (unhide HEK)) (((unhide HLB).below (unhide HBE)).below (unhide HEK)) (by first | omega | simp)).mono ?_
        rintro e wL ⟨rfl, hbq⟩
        have HEL := hide (bnx (unhide HEK) hbq)
        clear hbq
        clear e0
        have hsL := (unhide HEL).size
        have HOaL := hide ((unhide HOa).1.below (bnx (unhide HCE) (unhide HEL)))
        have HObL := hide ((unhide HOb).1.below (bnx (unhide HDE) (unhide HEL)))
        have HOcL := hide ((unhide HOc).1.below (unhide HEL))
        have HUa := hide (unhide HOa).1.under
        have HUb := hide (unhide HOb).1.under
        have HUc := hide (unhide HOc).1.under
        have hqa : qa.length ≤ 1000000 := by have h := congrArg List.length (unhide HOa).2; rw [List.length_map] at h; simp at h; simp [h]
        have hqb : qb.length ≤ 1000000 := by have h := congrArg List.length (unhide HOb).2; rw [List.length_map] at h; simp at h; simp [h]
        have hqc : qc.length ≤ 1000000 := by have h := congrArg List.length (unhide HOc).2; rw [List.length_map] at h; simp at h; simp [h]
        go_wp2_with fail
        refine (messages_sp _ _ _ _ _ (by omega) hqa (unhide HOaL) (unhide HUa)).mono ?_
        rintro e wM ⟨rfl, hsf⟩
        have HSM := hide hsf
        have hsM := hsf.size
        have HObM := hide ((unhide HObL).sf hsf (by omega))
        have HOcM := hide ((unhide HOcL).sf hsf (by omega))
        clear hsf
        go_wp2_with fail
        refine (messages_sp _ _ _ _ _ (by omega) hqb (unhide HObM) (unhide HUb)).mono ?_
        rintro e wN ⟨rfl, hsf⟩
        have HSN := hide hsf
        have hsN := hsf.size
        have HOcN := hide ((unhide HOcM).sf hsf (by omega))
        clear hsf
        go_wp2_with fail
        refine (messages_sp _ _ _ _ _ (by omega) hqc (unhide HOcN) (unhide HUc)).mono ?_
        rintro e wO ⟨rfl, hsf⟩
        have HSO := hide hsf
        clear hsf
        have HBO : Hid (Below wB.heap.size wB wO) := (((bnx (unhide HBE) (unhide HEL)).trans (unhide HSM).below).trans ((unhide HSN).below.mono (by omega))).trans ((unhide HSO).below.mono (by omega))
        have e0 := ((unhide HBO).cell (cell_lt (unhide HEB))).trans (unhide HEB)
        go_wp2_with fail
        refine (eqms_same _ _ l _ ((unhide HMxB).below (unhide HBO)) ((unhide HLB).below (unhide HBO)) (by first | omega | simp)).mono ?_
        rintro e wQ ⟨rfl, hbq⟩
        have HBF := hide (bnx (bnx (unhide HBT) (bnx (unhide HB20) (unhide HB0))) (bnx (unhide HBO) hbq))
        clear hbq e0
        go_wp2
        go_roundw
        case rel => exact ⟨k + 1, by omega, by omega, by go_num, HBF⟩
        case measure => simp [intOf] <;> omega
    · by_cases h1 : k < len
      · obtain rfl : k = 6 := by omega
        go_wp2_with (go_at_call 19; refine (wakes8 _ (unhide HGr).1).mono ?_; rintro e w2 ⟨rfl, hb2⟩)
        go_ret
        exact ⟨rfl, bnx (unhide HBEL) hb2⟩
      · obtain rfl : k = len := by omega
        go_wp2_with (go_at_call 19; refine (wakes8 _ (unhide HGr).1).mono ?_; rintro e w2 ⟨rfl, hb2⟩)
        go_ret
        exact ⟨rfl, bnx (unhide HBEL) hb2⟩
theorem exact8_walk0 (ao : Option Addr) (cap : Nat) (w : World) (hg : Laid2 w) : Calls Tryz.prog 3 #[.slice ao 0 cap] w fun e w' => e = .returned (.bool true) ∧ Below w.heap.size w w' := by
  go_enter Tryz.func3, Tryz.ntmps3
  go_wp2
  go_loop [3] (fun i => i = .int .i64 0) (fun _ => 0)
  case atStart => rfl
  case round =>
    subst hrel
    go_wp2_with (go_at_call 19; refine (wakes8 _ hg.1).mono ?_; rintro e w2 ⟨rfl, hb2⟩)
    go_ret
    exact ⟨rfl, hb2⟩
end Go.Proofs.YtknbgnoahfeigaaGreatDoor.M
