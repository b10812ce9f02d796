/- Proved here: what the statements of layer 8 share: PropsWeight, MsgWeight, heavy, num, wakes. Helper contracts. -/
import Derived.Test.YtknbgnoahfeigaaGreatDoorZMPut
namespace Go.Proofs.YtknbgnoahfeigaaGreatDoor.M
open Go.RowKit
set_option maxRecDepth 100000

set_option maxHeartbeats 2000000 in
theorem pweight_core (b off cap : Nat) (l : List Pr) (len : Nat) (w : World) (hlen : l.length = len) (hmx : len ≤ 140737488351232) (hl : PrAt w b off l) :
    Calls Tryz.prog 43 #[.slice (some ⟨b, off, none⟩) len cap] w fun e w' => ∃ r : Int, e = .returned (.int .i64 r) ∧ Below w.heap.size w w' := by
  have HL := hide hl
  have HLEN := hide hlen
  clear hl hlen
  go_enter Tryz.func43, Tryz.ntmps43
  go_wp2
  go_loopw [3, 4] (fun n i wr => ∃ (k q : Nat) (z : Int), k ≤ len ∧ k ≤ 1000 ∧ i = .int .i64 k ∧ n = .int .i64 z ∧ wr = w.drewN q) (fun _ i _ => 1000 - (intOf i).toNat)
  case atStart => exact ⟨0, 0, len, Nat.zero_le _, by omega, rfl, rfl, rfl⟩
  case round =>
    obtain ⟨k, q, z, hk, hk1, rfl, rfl, rfl⟩ := hrel
    by_cases hlt : k < len ∧ k < 1000
    · obtain ⟨hlt, hlt1⟩ := hlt
      obtain ⟨-, -, h2, h3⟩ := (unhide HL) k (by rw [unhide HLEN]; exact hlt)
      generalize at0 l k = p at h2 h3
      obtain ⟨id, n, s, t⟩ := p
      simp only at h2 h3
      go_wp2
      go_quiet (fail)
      go_wp2
      go_roundw
      case rel => exact ⟨k + 1, _, _, by omega, by omega, by go_num, rfl, rfl⟩
      case measure => simp [intOf]; omega
    · by_cases hlt1 : k < len
      · obtain rfl : k = 1000 := by omega
        go_wp2
        go_ret
        exact ⟨_, rfl, below_drewN (Below.refl _ _) q⟩
      · go_wp2
        go_ret
        exact ⟨_, rfl, below_drewN (Below.refl _ _) q⟩
theorem pweight_any (v : Value) (l : List Pr) (w : World) (h : Prp w v l) (hmx : l.length ≤ 140737488351232 := by omega) : Calls Tryz.prog 43 #[v] w fun e w' => ∃ r : Int, e = .returned (.int .i64 r) ∧ Below w.heap.size w w' := by
  obtain ⟨ao, cap, rfl, rfl | ⟨b, off, rfl, hc⟩⟩ := h
  · go_enter Tryz.func43, Tryz.ntmps43
    go_wp2
    refine wp_loop_rounds 1 ?_
    rw [rounds_succ]
    go_wp2
    go_ret
    exact ⟨_, rfl, Below.refl _ _⟩
  · exact pweight_core b off cap l _ w rfl hmx hc
set_option maxHeartbeats 4000000 in
theorem mweight_any (m : Mg) (mo : Option Addr) (mc : Nat) (w : World) (hp : Pok w mo mc m.props) : Calls Tryz.prog 20 #[mval m (.slice mo m.props.length mc)] w fun e w' => ∃ r : Int, e = .returned (.int .i64 r) ∧ Below w.heap.size w w' := by
  have HP := hide hp
  have hmx : m.props.length ≤ 140737488351232 := by have := hp.2; omega
  clear hp
  have HK : Hid (∀ W : World, Below (w.alloc (.cells #[.string m.topic, .string m.payload, .int .i64 m.qos, .bool m.ret, .string m.frm, .int .i64 m.untl, .slice mo m.props.length mc] 26)).heap.size (w.alloc (.cells #[.string m.topic, .string m.payload, .int .i64 m.qos, .bool m.ret, .string m.frm, .int .i64 m.untl, .slice mo m.props.length mc] 26)) W → W.cell? ⟨w.heap.size, 0, none⟩ = some (.string m.topic) ∧ W.cell? ⟨w.heap.size, 1, none⟩ = some (.string m.payload) ∧ W.cell? ⟨w.heap.size, 4, none⟩ = some (.string m.frm) ∧ W.cell? ⟨w.heap.size, 6, none⟩ = some (.slice mo m.props.length mc)) := fun W hW => by
    obtain ⟨y0, y1, y2, y3, y4, y5, y6⟩ := box7 hW
    exact ⟨y0, y1, y4, y6⟩
  go_enter Tryz.func20, Tryz.ntmps20
  go_wp2_with fail
  refine wp_region_noPanic ?_
  refine wp_region_held_drew (S := (fun w' => w'.cell? ⟨w.heap.size, 0, none⟩ = some (.string m.topic) ∧ w'.cell? ⟨w.heap.size, 1, none⟩ = some (.string m.payload) ∧ w'.cell? ⟨w.heap.size, 4, none⟩ = some (.string m.frm) ∧ w'.cell? ⟨w.heap.size, 6, none⟩ = some (.slice mo m.props.length mc))) (by kernel_rfl) ((unhide HK) _ (below_drewN (Below.refl _ _) 1)) (fun hHeld => ?_)
  refine rtk 0 (h := ?_)
  refine rtk 1 (h := ?_)
  refine rtk 2 (h := ?_)
  refine rtk 3 (h := ?_)
  refine rtk 4 (h := ?_)
  refine rtk 5 (h := ?_)
  refine rtk 6 (h := ?_)
  refine rtk 7 (h := ?_)
  refine rtk 8 (h := ?_)
  refine rtk 9 (h := ?_)
  refine rtk 10 (h := ?_)
  refine rtk 11 (h := ?_)
  refine rtk 12 (h := ?_)
  refine rtk 13 (h := ?_)
  refine rcl 14 (h := fun K hK => ?_)
  go_simp
  refine (pweight_any _ _ _ ((unhide HP).1.below (bnx (by go_grown) (below_drewN (Below.refl _ _) 1)))).mono ?_
  rintro e w2 ⟨r2, rfl, hb2⟩
  have HB2 := hide ((below_drewN (Below.refl _ _) 1).trans hb2)
  clear hb2
  refine hK.out _ _ ((unhide HK) _ (unhide HB2)) (fun hHeld => ?_)
  clear hK K
  refine rtk 15 (h := ?_)
  refine rcl 16 (h := fun K hK => ?_)
  go_simp
  refine hK.out _ _ ((unhide HK) _ (unhide HB2)) (fun hHeld => ?_)
  clear hK K
  refine wpAnyH_done (by kernel_rfl) ?_ _
  refine NoPanic.normal ?_
  have HB3 : Hid (Below w.heap.size w w2) := bnx ((Below.refl _ _).alloc (Nat.le_refl _) _) (unhide HB2)
  go_wp2
  go_ret
  exact ⟨_, rfl, unhide HB3⟩
/-- what is asked -/
structure Ak where
  l : List Mg
  m : Mg
  f : ByteArray
  now : Int
abbrev aval (l : List Mg) (lo : Option Addr) (lc : Nat) (m : Mg) (mo : Option Addr) (mc : Nat) (f : ByteArray) (now : Int) : Value := .agg #[.slice lo l.length lc, .string m.topic, .string m.payload, .int .i64 m.qos, .bool m.ret, .string m.frm, .int .i64 m.untl, .slice mo m.props.length mc, .string f, .int .i64 now]
theorem box10 {w w2 : World} {t : TypeId} {l : List Mg} {lo mo : Option Addr} {lc mc : Nat} {m : Mg} {f : ByteArray} {now : Int} (hb : Below (w.alloc (.cells #[.slice lo l.length lc, .string m.topic, .string m.payload, .int .i64 m.qos, .bool m.ret, .string m.frm, .int .i64 m.untl, .slice mo m.props.length mc, .string f, .int .i64 now] t)).heap.size (w.alloc (.cells #[.slice lo l.length lc, .string m.topic, .string m.payload, .int .i64 m.qos, .bool m.ret, .string m.frm, .int .i64 m.untl, .slice mo m.props.length mc, .string f, .int .i64 now] t)) w2) : w2.cell? ⟨w.heap.size, 0, none⟩ = some (.slice lo l.length lc) ∧ (w2.cell? ⟨w.heap.size, 1, none⟩ = some (.string m.topic) ∧ w2.cell? ⟨w.heap.size, 2, none⟩ = some (.string m.payload) ∧ w2.cell? ⟨w.heap.size, 3, none⟩ = some (.int .i64 m.qos) ∧ w2.cell? ⟨w.heap.size, 4, none⟩ = some (.bool m.ret) ∧ w2.cell? ⟨w.heap.size, 5, none⟩ = some (.string m.frm) ∧ w2.cell? ⟨w.heap.size, 6, none⟩ = some (.int .i64 m.untl) ∧ w2.cell? ⟨w.heap.size, 7, none⟩ = some (.slice mo m.props.length mc) ∧ w2.cell? ⟨w.heap.size, 8, none⟩ = some (.string f)) := by
  have hl : w.heap.size < (w.alloc (.cells #[.slice lo l.length lc, .string m.topic, .string m.payload, .int .i64 m.qos, .bool m.ret, .string m.frm, .int .i64 m.untl, .slice mo m.props.length mc, .string f, .int .i64 now] t)).heap.size := by simp
  exact ⟨(hb.cell hl).trans (by simp), (hb.cell hl).trans (by simp), (hb.cell hl).trans (by simp), (hb.cell hl).trans (by simp), (hb.cell hl).trans (by simp), (hb.cell hl).trans (by simp), (hb.cell hl).trans (by simp), (hb.cell hl).trans (by simp), (hb.cell hl).trans (by simp)⟩
def HvPost (n : Nat) (w : World) (e : Ending) (w' : World) : Prop := (∃ bo, e = .returned (.bool bo) ∧ (bo = false → n ≤ 100)) ∧ Below w.heap.size w w'
set_option maxHeartbeats 4000000 in
theorem heavy_any (l : List Mg) (lo : Option Addr) (lc : Nat) (m : Mg) (mo : Option Addr) (mc : Nat) (f : ByteArray) (now : Int) (w : World) (hp : Pok w mo mc m.props) (hl : Mgs w (.slice lo l.length lc) l) (hmx : l.length ≤ 140737488351232) :
    Calls Tryz.prog 5 #[aval l lo lc m mo mc f now] w (HvPost l.length w) := by
  have HP := hide hp
  obtain ⟨lo', lc', he, hcap, hcase⟩ := hl
  cases he
  have HC := hide hcase
  clear hp hcase
  have HK : Hid (∀ W : World, Below (w.alloc (.cells #[.slice lo l.length lc, .string m.topic, .string m.payload, .int .i64 m.qos, .bool m.ret, .string m.frm, .int .i64 m.untl, .slice mo m.props.length mc, .string f, .int .i64 now] 28)).heap.size (w.alloc (.cells #[.slice lo l.length lc, .string m.topic, .string m.payload, .int .i64 m.qos, .bool m.ret, .string m.frm, .int .i64 m.untl, .slice mo m.props.length mc, .string f, .int .i64 now] 28)) W → (W.cell? ⟨w.heap.size, 1, none⟩ = some (.string m.topic) ∧ W.cell? ⟨w.heap.size, 2, none⟩ = some (.string m.payload) ∧ W.cell? ⟨w.heap.size, 3, none⟩ = some (.int .i64 m.qos) ∧ W.cell? ⟨w.heap.size, 4, none⟩ = some (.bool m.ret) ∧ W.cell? ⟨w.heap.size, 5, none⟩ = some (.string m.frm) ∧ W.cell? ⟨w.heap.size, 6, none⟩ = some (.int .i64 m.untl) ∧ W.cell? ⟨w.heap.size, 7, none⟩ = some (.slice mo m.props.length mc) ∧ W.cell? ⟨w.heap.size, 8, none⟩ = some (.string f))) := fun W hW => (box10 hW).2
  have HK0 : Hid (∀ W : World, Below (w.alloc (.cells #[.slice lo l.length lc, .string m.topic, .string m.payload, .int .i64 m.qos, .bool m.ret, .string m.frm, .int .i64 m.untl, .slice mo m.props.length mc, .string f, .int .i64 now] 28)).heap.size (w.alloc (.cells #[.slice lo l.length lc, .string m.topic, .string m.payload, .int .i64 m.qos, .bool m.ret, .string m.frm, .int .i64 m.untl, .slice mo m.props.length mc, .string f, .int .i64 now] 28)) W → W.cell? ⟨w.heap.size, 0, none⟩ = some (.slice lo l.length lc)) := fun W hW => (box10 hW).1
  go_enter Tryz.func5, Tryz.ntmps5
  go_wp2_with fail
  refine wp_region_noPanic ?_
  refine wp_region_held_drew (S := (fun w' => w'.cell? ⟨w.heap.size, 1, none⟩ = some (.string m.topic) ∧ w'.cell? ⟨w.heap.size, 2, none⟩ = some (.string m.payload) ∧ w'.cell? ⟨w.heap.size, 3, none⟩ = some (.int .i64 m.qos) ∧ w'.cell? ⟨w.heap.size, 4, none⟩ = some (.bool m.ret) ∧ w'.cell? ⟨w.heap.size, 5, none⟩ = some (.string m.frm) ∧ w'.cell? ⟨w.heap.size, 6, none⟩ = some (.int .i64 m.untl) ∧ w'.cell? ⟨w.heap.size, 7, none⟩ = some (.slice mo m.props.length mc) ∧ w'.cell? ⟨w.heap.size, 8, none⟩ = some (.string f))) (by kernel_rfl) ((unhide HK) _ (below_drewN (Below.refl _ _) 1)) (fun hHeld => ?_)
  refine rtk 0 (h := ?_)
  refine rtk 1 (h := ?_)
  refine rtk 2 (h := ?_)
  refine rtk 3 (h := ?_)
  refine rtk 4 (h := ?_)
  refine rcl 5 (h := fun K hK => ?_)
  go_simp
  refine (mweight_any m mo mc _ ((unhide HP).below (bnx (by go_grown) (below_drewN (Below.refl _ _) 1)))).mono ?_
  rintro e w2 ⟨r2, rfl, hb2⟩
  have HB2 := hide ((below_drewN (Below.refl _ _) 1).trans hb2)
  clear hb2
  refine hK.out _ _ ((unhide HK) _ (unhide HB2)) (fun hHeld => ?_)
  clear hK K
  refine rtk 6 (h := ?_)
  refine rcl 7 (h := fun K hK => ?_)
  go_simp
  refine hK.out _ _ ((unhide HK) _ (unhide HB2)) (fun hHeld => ?_)
  clear hK K
  refine wpAnyH_done (by kernel_rfl) ?_ _
  refine NoPanic.normal ?_
  have HB3 : Hid (Below w.heap.size w w2) := bnx ((Below.refl _ _).alloc (Nat.le_refl _) _) (unhide HB2)
  have x0 := (unhide HK0) _ (unhide HB2)
  generalize hlen : l.length = len at x0 hcap hmx ⊢
  have HLEN := hide hlen
  clear hlen HK HK0
  rcases unhide HC with hl0 | ⟨b, off, hlo, hat⟩
  · have h0 : len = 0 := by rw [← unhide HLEN, hl0]; rfl
    subst h0
    go_wp2
    refine wp_loop_rounds 1 ?_
    rw [rounds_succ]
    go_wp2
    all_goals
      go_ret
      exact ⟨⟨_, rfl, fun _ => by have := unhide HLEN; omega⟩, unhide HB3⟩
  · subst hlo
    have HAT := hide hat
    have HBX := HB2
    clear hat HB2
    go_wp2
    go_loopw [3, 4] (fun n i wr => ∃ (k : Nat) (z : Int), k ≤ len ∧ k ≤ 200 ∧ i = .int .i64 k ∧ n = .int .i64 z ∧ Hid (Below w2.heap.size w2 wr)) (fun _ i _ => 200 - (intOf i).toNat)
    case atStart => exact ⟨0, _, Nat.zero_le _, by omega, rfl, rfl, Below.refl _ _⟩
    case round =>
      obtain ⟨k, z, hk, hk1, rfl, rfl, HBEL⟩ := hrel
      have x1 := ((unhide HBEL).cell (cell_lt x0)).trans x0
      by_cases hlt : k < len ∧ k < 200
      · obtain ⟨hlt, hlt1⟩ := hlt
        obtain ⟨ao, c, ⟨h0, h1, h2, h3, h4, h5, h6⟩, hpk⟩ := ((unhide HAT).below (bnx (unhide HB3) (unhide HBEL))) k (by rw [unhide HLEN]; exact hlt)
        generalize l.getD k mg0 = u at h0 h1 h2 h3 h4 h5 h6 hpk
        have HPK := hide hpk
        clear hpk
        go_wp2_with (go_at_call 20; refine (mweight_any u ao c _ (unhide HPK)).mono ?_; rintro e w5 ⟨r5, rfl, hb5⟩)
        go_roundw
        case rel => exact ⟨k + 1, _, by omega, by omega, by go_num, rfl, bnx (unhide HBEL) hb5⟩
        case measure => simp [intOf]; omega
      · have HB4 := hide (bnx (unhide HB3) (unhide HBEL))
        by_cases hz : 8000 < z
        · by_cases hlt1 : k < len
          · obtain rfl : k = 200 := by omega
            go_wp2
            go_ret
            exact ⟨⟨_, rfl, fun h => (by cases h)⟩, unhide HB4⟩
          · go_wp2
            go_ret
            exact ⟨⟨_, rfl, fun h => (by cases h)⟩, unhide HB4⟩
        · by_cases hlt1 : k < len
          · obtain rfl : k = 200 := by omega
            go_wp2
            go_ret
            exact ⟨⟨_, rfl, fun h => (by have := unhide HLEN; revert h; simp; omega)⟩, unhide HB4⟩
          · go_wp2
            go_ret
            exact ⟨⟨_, rfl, fun h => (by have := unhide HLEN; revert h; simp; omega)⟩, unhide HB4⟩
theorem num8 (v : Value) (n : Int) (w : World) (hg : Laid w) (hv : ErrX w v n) : Calls Tryz.prog 16 #[v] w fun e w' => e = .returned (.int .i64 n) ∧ Below w.heap.size w w' := by
  go_enter Tryz.func16, Tryz.ntmps16
  go_wp2_with (go_at_call 40; refine (numx _ n _ hg hv).mono ?_; rintro e w' ⟨rfl, hb⟩)
  go_ret
  exact ⟨rfl, hb⟩
theorem num8_nil (w : World) (hg : Laid w) : Calls Tryz.prog 16 #[.nilIface] w fun e w' => e = .returned (.int .i64 0) ∧ Below w.heap.size w w' := num8 _ 0 w hg (.inl ⟨rfl, rfl⟩)
theorem lup {w w' : World} (h : Laid w) (hb : Below w.heap.size w w') : Laid w' := h.below hb h.pos
/-- a message of the statements' own: topic a, payload x -/
abbrev wkm : Mg := ⟨⟨#[97]⟩, ⟨#[120]⟩, 0, false, ⟨#[]⟩, 0, []⟩
set_option maxRecDepth 100000 in
theorem wk_nm : nm wkm = true := by decide
theorem wk_wrt : wrt wkm = [wkm] := by
  unfold wrt
  rw [show wkm.payload.toList.isEmpty = false from by rw [Lib.toList_data]; rfl]; rfl
set_option maxHeartbeats 4000000 in
theorem wakes8 (w : World) (hg : Laid w) : Calls Tryz.prog 19 #[] w fun e w' => e = .returned (.bool true) ∧ Below w.heap.size w w' := by
  have HPUT := hide (put_any (.slice none 0 0) [] wkm none 0 w (by simp) (fun i hi => by simp at hi) (Mgs.nil w) ⟨⟨none, 0, rfl, .inl rfl⟩, by simp⟩ (by decide))
  have HG := hide hg
  clear hg
  go_enter Tryz.func19, Tryz.ntmps19
  go_wp2_with fail
  refine (unhide HPUT).mono ?_
  clear HPUT
  rintro e w1 ⟨(⟨hm, _⟩ | ⟨_, hn, _⟩ | ⟨_, _, k, HAT, (⟨hN, v, qs, rfl, HO⟩ | ⟨hN, _⟩)⟩), hb1⟩
  · exact absurd (fun j hj => absurd hj (Nat.not_lt_zero j)) hm
  · rw [wk_nm] at hn; cases hn
  · have hk0 : k = 0 := by have := (unhide HAT).1; simp at this; exact this
    subst hk0
    have hM : Mgs w1 v [wkm] := by
      have h := (unhide HO).1.mgs
      rw [(unhide HO).2] at h
      have e : putL [] wkm 0 = [wkm] := by unfold putL; rw [wk_wrt]; simp
      rw [e] at h
      exact h
    obtain ⟨ao, cap, rfl, hcap, h0 | ⟨b, off, rfl, hat⟩⟩ := hM
    · cases h0
    obtain ⟨_, _, ⟨_, x1, _⟩, _⟩ := hat 0 (by simp)
    have x1' : w1.cell? ⟨b, off + 1, none⟩ = some (.string ⟨#[120]⟩) := by simpa using x1
    have HB1 := hide hb1
    have HG1 := hide (lup (unhide HG) hb1)
    clear x1 hat hb1 HO hN
    dsimp only [List.length_cons, List.length_nil]
    go_wp2_with fail
    refine (num8_nil _ (unhide HG1)).mono ?_
    rintro e w2 ⟨rfl, hb2⟩
    have x2 := (hb2.cell (cell_lt x1')).trans x1'
    go_wp2
    go_ret
    exact ⟨rfl, bnx (unhide HB1) hb2⟩
  · unfold putN at hN
    rw [if_pos wk_nm] at hN
    rw [if_pos (.inr (.inr (by simp)))] at hN
    omega
end Go.Proofs.YtknbgnoahfeigaaGreatDoor.M
