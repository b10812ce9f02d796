/- Proved here: dovecoteref0.EqWills tells whether two lists of wills are one. Helper contract. -/
import Derived.Test.YtpoeakillimibaaGreatDoorM38
import Derived.Test.YtpoeakillimibaaGreatDoorM30
import Derived.Deep.RegionHeld3
namespace Go.Proofs.YtpoeakillimibaaGreatDoor.K
open Go.RowKit
set_option maxRecDepth 100000

abbrev wl0 : Wl := ⟨⟨#[]⟩, ⟨#[]⟩, 0, false, []⟩
/-- a will lies there -/
def WlIs (w : World) (b off : Nat) (u : Wl) : Prop := ∃ ao n cap, (w.cell? ⟨b, off, none⟩ = some (.string u.topic) ∧ w.cell? ⟨b, off + 1, none⟩ = some (.string u.payload) ∧ w.cell? ⟨b, off + 2, none⟩ = some (.int .i64 u.qos) ∧ w.cell? ⟨b, off + 3, none⟩ = some (.bool u.retain) ∧ w.cell? ⟨b, off + 4, none⟩ = some (.slice ao n cap)) ∧ Prp w (.slice ao n cap) u.props ∧ u.props.length ≤ 1000000000
def WlAt (w : World) (b off : Nat) (us : List Wl) : Prop := ∀ k, k < us.length → WlIs w b (off + k * 5) (us.getD k wl0)
theorem WlIs.below {w w' : World} {b off : Nat} {u : Wl} (h : WlIs w b off u) (hb : Below w.heap.size w w') : WlIs w' b off u := by
  obtain ⟨ao, n, cap, ⟨h0, h1, h2, h3, h4⟩, h5, h6⟩ := h
  have hl : b < w.heap.size := cell_lt h0
  exact ⟨ao, n, cap, ⟨(hb.cell hl).trans h0, (hb.cell hl).trans h1, (hb.cell hl).trans h2, (hb.cell hl).trans h3, (hb.cell hl).trans h4⟩, h5.below hb, h6⟩
theorem wl_eq (u v : Wl) : u = v ↔ (u.topic = v.topic ∧ u.payload = v.payload ∧ u.qos = v.qos ∧ u.retain = v.retain ∧ u.props = v.props) := by
  obtain ⟨a, b, c, d, e⟩ := u
  obtain ⟨a', b', c', d', e'⟩ := v
  simp
set_option maxHeartbeats 4000000 in
theorem eqws_core (ba oa bb ob ca cb : Nat) (l m : List Wl) (len : Nat) (w : World) (hl : l.length = len) (hm : m.length = len) (hmx : len ≤ 1000000000) (ha : WlAt w ba oa l) (hb : WlAt w bb ob m) :
    Calls Tryz.prog 65 #[.slice (some ⟨ba, oa, none⟩) len ca, .slice (some ⟨bb, ob, none⟩) len cb] w fun e w' => (∃ b, e = .returned (.bool b) ∧ (b = true ↔ ∀ j, j < len → l.getD j wl0 = m.getD j wl0)) ∧ Below w.heap.size w w' := by
  have HL := hide hl
  have HM := hide hm
  have HA := hide ha
  have HB := hide hb
  clear hl hm ha hb
  go_enter Tryz.func65, Tryz.ntmps65
  go_wp2
  go_loopw [5] (fun i wr => ∃ k : Nat, k ≤ len ∧ i = .int .i64 k ∧ Hid (∀ j, j < k → l.getD j wl0 = m.getD j wl0) ∧ Hid (Below w.heap.size w wr)) (fun i _ => len - (intOf i).toNat)
  case atStart => exact ⟨0, Nat.zero_le _, rfl, fun j hj => absurd hj (Nat.not_lt_zero j), Below.refl _ _⟩
  case round =>
    obtain ⟨k, hk, rfl, HALL, HBEL⟩ := hrel
    by_cases hlt : k < len
    · have hx := ((unhide HA) k (by rw [unhide HL]; exact hlt)).below (unhide HBEL)
      have hy := ((unhide HB) k (by rw [unhide HM]; exact hlt)).below (unhide HBEL)
      have hwl := wl_eq (l.getD k wl0) (m.getD k wl0)
      generalize hu : l.getD k wl0 = u at hx hwl
      generalize hv : m.getD k wl0 = v at hy hwl
      have HU := hide hu
      have HV := hide hv
      have HWL := hide hwl
      clear hu hv hwl
      obtain ⟨ao, n, cap, hc, hp, hq⟩ := hx
      obtain ⟨ao', n', cap', hc', hp', hq'⟩ := hy
      have HP := hide hp
      have HP' := hide hp'
      have HC := hide hc
      have HC' := hide hc'
      have hlb : ba < wr.heap.size := cell_lt hc.1
      have hlb' : bb < wr.heap.size := cell_lt hc'.1
      obtain ⟨x1, x2, x3, x4, x5⟩ := hc
      obtain ⟨y1, y2, y3, y4, y5⟩ := hc'
      clear hp hp'
      have HK : Hid (∀ W : World, Below wr.heap.size wr W → (fun w' => (w'.cell? ⟨ba, oa + k * 5, none⟩ = some (.string u.topic) ∧ w'.cell? ⟨ba, oa + k * 5 + 1, none⟩ = some (.string u.payload) ∧ w'.cell? ⟨ba, oa + k * 5 + 2, none⟩ = some (.int .i64 u.qos) ∧ w'.cell? ⟨ba, oa + k * 5 + 3, none⟩ = some (.bool u.retain) ∧ w'.cell? ⟨ba, oa + k * 5 + 4, none⟩ = some (.slice ao n cap)) ∧ (w'.cell? ⟨bb, ob + k * 5, none⟩ = some (.string v.topic) ∧ w'.cell? ⟨bb, ob + k * 5 + 1, none⟩ = some (.string v.payload) ∧ w'.cell? ⟨bb, ob + k * 5 + 2, none⟩ = some (.int .i64 v.qos) ∧ w'.cell? ⟨bb, ob + k * 5 + 3, none⟩ = some (.bool v.retain) ∧ w'.cell? ⟨bb, ob + k * 5 + 4, none⟩ = some (.slice ao' n' cap'))) W) := by
        intro W hW
        obtain ⟨x1, x2, x3, x4, x5⟩ := unhide HC
        obtain ⟨y1, y2, y3, y4, y5⟩ := unhide HC'
        exact ⟨⟨(hW.cell hlb).trans x1, (hW.cell hlb).trans x2, (hW.cell hlb).trans x3, (hW.cell hlb).trans x4, (hW.cell hlb).trans x5⟩, (hW.cell hlb').trans y1, (hW.cell hlb').trans y2, (hW.cell hlb').trans y3, (hW.cell hlb').trans y4, (hW.cell hlb').trans y5⟩
      go_wp2_with fail
      go_region_held3 (fun w' => (w'.cell? ⟨ba, oa + k * 5, none⟩ = some (.string u.topic) ∧ w'.cell? ⟨ba, oa + k * 5 + 1, none⟩ = some (.string u.payload) ∧ w'.cell? ⟨ba, oa + k * 5 + 2, none⟩ = some (.int .i64 u.qos) ∧ w'.cell? ⟨ba, oa + k * 5 + 3, none⟩ = some (.bool u.retain) ∧ w'.cell? ⟨ba, oa + k * 5 + 4, none⟩ = some (.slice ao n cap)) ∧ (w'.cell? ⟨bb, ob + k * 5, none⟩ = some (.string v.topic) ∧ w'.cell? ⟨bb, ob + k * 5 + 1, none⟩ = some (.string v.payload) ∧ w'.cell? ⟨bb, ob + k * 5 + 2, none⟩ = some (.int .i64 v.qos) ∧ w'.cell? ⟨bb, ob + k * 5 + 3, none⟩ = some (.bool v.retain) ∧ w'.cell? ⟨bb, ob + k * 5 + 4, none⟩ = some (.slice ao' n' cap')))
        (first | exact (unhide HK) _ (below_drewN (Below.refl _ _) 1) | exact (unhide HK) _ (unhide HB2) | exact (unhide HK) _ (Below.refl _ _))
        (first | (go_at_call 115; refine (eqw_any u.topic v.topic u.payload v.payload u.qos v.qos u.retain v.retain ao ao' n n' cap cap' u.props v.props _ ((unhide HP).below (below_drewN (Below.refl _ _) 1)) ((unhide HP').below (below_drewN (Below.refl _ _) 1)) hq).mono ?_; rintro e w2 ⟨⟨bo, rfl, hbo⟩, hb2⟩; have HBO := hide hbo; have HB2 : Hid (Below wr.heap.size wr w2) := (below_drewN (Below.refl _ _) 1).trans hb2; clear hbo hb2) | fail)
      have HB3 : Hid (Below w.heap.size w w2) := (unhide HBEL).trans ((unhide HB2).mono (unhide HBEL).size)
      clear HK HC HC' x1 x2 x3 x4 x5 y1 y2 y3 y4 y5 HB2
      have HUV : Hid ((bo = true) ↔ u = v) := (unhide HBO).trans (unhide HWL).symm
      clear HBO HWL
      cases bo
      · have HNE : Hid (l.getD k wl0 ≠ m.getD k wl0) := fun e => by
          rw [unhide HU, unhide HV] at e
          have := (unhide HUV).2 e
          cases this
        go_wp2
        go_ret
        refine ⟨⟨_, rfl, ?_⟩, unhide HB3⟩
        constructor
        · intro h; cases h
        · intro h; exact absurd (h k hlt) (unhide HNE)
      · have HE : Hid (l.getD k wl0 = m.getD k wl0) := by
          show _ = _
          rw [unhide HU, unhide HV]
          exact (unhide HUV).1 rfl
        go_wp2
        go_roundw
        case rel => exact ⟨k + 1, by omega, by go_num, fun j hj => by
          rcases Nat.lt_succ_iff_lt_or_eq.1 hj with h | h
          · exact (unhide HALL) j h
          · rw [h]; exact unhide HE, HB3⟩
        case measure => simp [intOf]; omega
    · go_wp2
      go_ret
      exact ⟨⟨_, rfl, fun _ j hj => (unhide HALL) j (by omega), fun _ => rfl⟩, unhide HBEL⟩
theorem eqws_len (ao bo : Option Addr) (n m ca cb : Nat) (w : World) (h : n ≠ m) :
    Calls Tryz.prog 65 #[.slice ao n ca, .slice bo m cb] w fun e w' => e = .returned (.bool false) ∧ w' = w := by
  have h1 : ((n : Int) == (m : Int)) = false := beq_eq_false_iff_ne.2 (by omega)
  go_enter Tryz.func65, Tryz.ntmps65
  go_wp2
  go_ret
  exact ⟨rfl, rfl⟩
theorem eqws_nil (ao bo : Option Addr) (ca cb : Nat) (w : World) :
    Calls Tryz.prog 65 #[.slice ao 0 ca, .slice bo 0 cb] w fun e w' => e = .returned (.bool true) ∧ w' = w := by
  go_enter Tryz.func65, Tryz.ntmps65
  go_wp2
  refine wp_loop_rounds 1 ?_
  rw [rounds_succ]
  go_wp2
  go_ret
  exact ⟨rfl, rfl⟩
/-- the value reads as the list -/
def Wls (w : World) (v : Value) (l : List Wl) : Prop := ∃ ao cap, v = .slice ao l.length cap ∧ (l.length ≤ cap ∧ cap ≤ maxLen) ∧ (l = [] ∨ ∃ b off, ao = some ⟨b, off, none⟩ ∧ WlAt w b off l)
theorem wl_ext {l m : List Wl} (hl : l.length = m.length) (h : ∀ j, j < l.length → l.getD j wl0 = m.getD j wl0) : l = m := by
  apply List.ext_getElem hl
  intro i h1 h2
  have := h i h1
  rw [List.getD_eq_getElem?_getD, List.getD_eq_getElem?_getD, List.getElem?_eq_getElem h1, List.getElem?_eq_getElem h2] at this
  exact this
theorem eqws_any (va vb : Value) (l m : List Wl) (w : World) (ha : Wls w va l) (hb : Wls w vb m) (hmx : l.length ≤ 1000000000) :
    Calls Tryz.prog 65 #[va, vb] w fun e w' => (∃ b, e = .returned (.bool b) ∧ (b = true ↔ l = m)) ∧ Below w.heap.size w w' := by
  obtain ⟨ao, ca, rfl, _, ha⟩ := ha
  obtain ⟨bo, cb, rfl, _, hb⟩ := hb
  by_cases hl : l.length = m.length
  · rcases ha with rfl | ⟨ba, oa, rfl, hca⟩
    · obtain rfl : m = [] := List.length_eq_zero_iff.1 hl.symm
      refine (eqws_nil _ _ _ _ _).mono ?_
      rintro e w' ⟨rfl, rfl⟩
      exact ⟨⟨true, rfl, by simp⟩, Below.refl _ _⟩
    · rcases hb with rfl | ⟨bb, ob, rfl, hcb⟩
      · obtain rfl : l = [] := List.length_eq_zero_iff.1 hl
        refine (eqws_nil _ _ _ _ _).mono ?_
        rintro e w' ⟨rfl, rfl⟩
        exact ⟨⟨true, rfl, by simp⟩, Below.refl _ _⟩
      · rw [← hl]
        refine (eqws_core ba oa bb ob ca cb l m l.length w rfl hl.symm hmx hca hcb).mono ?_
        rintro e w' ⟨⟨b, rfl, hbb⟩, hbel⟩
        exact ⟨⟨b, rfl, hbb.trans ⟨fun h => wl_ext hl h, fun h j _ => by rw [h]⟩⟩, hbel⟩
  · refine (eqws_len ao bo l.length m.length ca cb w hl).mono ?_
    rintro e w' ⟨rfl, rfl⟩
    exact ⟨⟨false, rfl, by constructor; (intro h; cases h); (intro h; exact absurd (by rw [h]) hl)⟩, Below.refl _ _⟩
end Go.Proofs.YtpoeakillimibaaGreatDoor.K
