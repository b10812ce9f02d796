/- Proved here: messages in memory; dovecoteref0.EqMessage and EqMessages tell true of messages that are one. Helper contracts. -/
import Derived.Test.YtknbgnoahfeigaaGreatDoorZMPr
import Derived.Deep.RegionHeld3
namespace Go.Proofs.YtknbgnoahfeigaaGreatDoor.M
open Go.RowKit
set_option maxRecDepth 100000

theorem bnx {w a b : World} (h : Below w.heap.size w a) (h2 : Below a.heap.size a b) : Below w.heap.size w b := h.trans (h2.mono h.size)
/-- a message -/
structure Mg where
  topic : ByteArray
  payload : ByteArray
  qos : Int
  ret : Bool
  frm : ByteArray
  untl : Int
  props : List Pr
abbrev mg0 : Mg := ⟨⟨#[]⟩, ⟨#[]⟩, 0, false, ⟨#[]⟩, 0, []⟩
/-- its cells, and its value, its properties' slice being s -/
abbrev mcs (m : Mg) (s : Value) : List Value := [.string m.topic, .string m.payload, .int .i64 m.qos, .bool m.ret, .string m.frm, .int .i64 m.untl, s]
abbrev mval (m : Mg) (s : Value) : Value := .agg #[.string m.topic, .string m.payload, .int .i64 m.qos, .bool m.ret, .string m.frm, .int .i64 m.untl, s]
/-- the cells at off in the block b -/
def C7 (w : World) (b off : Nat) (m : Mg) (s : Value) : Prop := w.cell? ⟨b, off, none⟩ = some (.string m.topic) ∧ w.cell? ⟨b, off + 1, none⟩ = some (.string m.payload) ∧ w.cell? ⟨b, off + 2, none⟩ = some (.int .i64 m.qos) ∧ w.cell? ⟨b, off + 3, none⟩ = some (.bool m.ret) ∧ w.cell? ⟨b, off + 4, none⟩ = some (.string m.frm) ∧ w.cell? ⟨b, off + 5, none⟩ = some (.int .i64 m.untl) ∧ w.cell? ⟨b, off + 6, none⟩ = some s
theorem C7.below {w w' : World} {b off : Nat} {m : Mg} {s : Value} (h : C7 w b off m s) (hb : Below w.heap.size w w') : C7 w' b off m s := by
  obtain ⟨h0, h1, h2, h3, h4, h5, h6⟩ := h
  have hl : b < w.heap.size := cell_lt h0
  exact ⟨(hb.cell hl).trans h0, (hb.cell hl).trans h1, (hb.cell hl).trans h2, (hb.cell hl).trans h3, (hb.cell hl).trans h4, (hb.cell hl).trans h5, (hb.cell hl).trans h6⟩
theorem C7.lt {w : World} {b off : Nat} {m : Mg} {s : Value} (h : C7 w b off m s) : b < w.heap.size := cell_lt h.1
theorem C7.drewN {w : World} {b off : Nat} {m : Mg} {s : Value} (h : C7 w b off m s) (q : Nat) : C7 (w.drewN q) b off m s := h
/-- properties as a message has them -/
def Pok (w : World) (ao : Option Addr) (cap : Nat) (l : List Pr) : Prop := Prp w (.slice ao l.length cap) l ∧ l.length ≤ 2932031007317
theorem Pok.below {w w' : World} {ao : Option Addr} {cap : Nat} {l : List Pr} (h : Pok w ao cap l) (hb : Below w.heap.size w w') : Pok w' ao cap l := ⟨h.1.below hb, h.2⟩
/-- a message lies there -/
def MgIs (w : World) (b off : Nat) (m : Mg) : Prop := ∃ ao cap, C7 w b off m (.slice ao m.props.length cap) ∧ Pok w ao cap m.props
theorem MgIs.below {w w' : World} {b off : Nat} {m : Mg} (h : MgIs w b off m) (hb : Below w.heap.size w w') : MgIs w' b off m := by
  obtain ⟨ao, cap, h1, h2⟩ := h
  exact ⟨ao, cap, h1.below hb, h2.below hb⟩
def MgAt (w : World) (b off : Nat) (l : List Mg) : Prop := ∀ k, k < l.length → MgIs w b (off + k * 7) (l.getD k mg0)
theorem MgAt.below {w w' : World} {b off : Nat} {l : List Mg} (h : MgAt w b off l) (hb : Below w.heap.size w w') : MgAt w' b off l := fun k hk => (h k hk).below hb
/-- the value v reads as the list l -/
def Mgs (w : World) (v : Value) (l : List Mg) : Prop := ∃ ao cap, v = .slice ao l.length cap ∧ (l.length ≤ cap ∧ cap ≤ maxLen) ∧ (l = [] ∨ ∃ b off, ao = some ⟨b, off, none⟩ ∧ MgAt w b off l)
theorem Mgs.below {w w' : World} {v : Value} {l : List Mg} (h : Mgs w v l) (hb : Below w.heap.size w w') : Mgs w' v l := by
  obtain ⟨ao, cap, h1, h2, h3⟩ := h
  refine ⟨ao, cap, h1, h2, ?_⟩
  rcases h3 with h3 | ⟨b, off, e, hc⟩
  · exact .inl h3
  · exact .inr ⟨b, off, e, hc.below hb⟩
theorem Mgs.nil (w : World) : Mgs w (.slice none 0 0) [] := ⟨none, 0, rfl, by simp, .inl rfl⟩

set_option maxHeartbeats 4000000 in
theorem eqm_same (m : Mg) (ao ao' : Option Addr) (cap cap' : Nat) (w : World) (ha : Pok w ao cap m.props) (hb : Pok w ao' cap' m.props) :
    Calls Tryz.prog 41 #[mval m (.slice ao m.props.length cap), mval m (.slice ao' m.props.length cap')] w fun e w' => e = .returned (.bool true) ∧ Below w.heap.size w w' := by
  have HA := hide ha
  have HB := hide hb
  clear ha hb
  obtain ⟨t, p, q, r, f, u, l⟩ := m
  dsimp only at HA HB ⊢
  go_enter Tryz.func41, Tryz.ntmps41
  go_wp2_with fail
  refine (eqp_same _ _ l _ ((unhide HA).1.below (by go_grown)) ((unhide HB).1.below (by go_grown)) (by have := (unhide HA).2; omega)).mono ?_
  rintro e w1 ⟨rfl, hb1⟩
  go_wp2
  go_ret
  exact ⟨rfl, bnx (by go_grown) hb1⟩
set_option maxHeartbeats 4000000 in
theorem eqms_core (ba oa bb ob ca cb : Nat) (l : List Mg) (len : Nat) (w : World) (hl : l.length = len) (hmx : len ≤ 140737488351232) (ha : MgAt w ba oa l) (hb : MgAt w bb ob l) :
    Calls Tryz.prog 17 #[.slice (some ⟨ba, oa, none⟩) len ca, .slice (some ⟨bb, ob, none⟩) len cb] w fun e w' => e = .returned (.bool true) ∧ Below w.heap.size w w' := by
  have HL := hide hl
  have HA := hide ha
  have HB := hide hb
  clear hl ha hb
  go_enter Tryz.func17, Tryz.ntmps17
  go_wp2
  go_loopw [5] (fun i wr => ∃ k : Nat, k ≤ len ∧ i = .int .i64 k ∧ Hid (Below w.heap.size w wr)) (fun i _ => len - (intOf i).toNat)
  case atStart => exact ⟨0, Nat.zero_le _, rfl, Below.refl _ _⟩
  case round =>
    obtain ⟨k, hk, rfl, HBEL⟩ := hrel
    by_cases hlt : k < len
    · obtain ⟨ao, cap, hc, hp⟩ := ((unhide HA) k (by rw [unhide HL]; exact hlt)).below (unhide HBEL)
      obtain ⟨ao', cap', hc', hp'⟩ := ((unhide HB) k (by rw [unhide HL]; exact hlt)).below (unhide HBEL)
      have HP := hide hp
      have HP' := hide hp'
      clear hp hp'
      generalize l.getD k mg0 = u at hc hc' HP HP'
      have HK : Hid (∀ W : World, Below wr.heap.size wr W → C7 W ba (oa + k * 7) u (.slice ao u.props.length cap) ∧ C7 W bb (ob + k * 7) u (.slice ao' u.props.length cap')) := fun W hW => ⟨hc.below hW, hc'.below hW⟩
      obtain ⟨x0, x1, x2, x3, x4, x5, x6⟩ := hc
      obtain ⟨y0, y1, y2, y3, y4, y5, y6⟩ := hc'
      go_wp2_with fail
      go_region_held3 (fun w' => (w'.cell? ⟨ba, oa + k * 7, none⟩ = some (.string u.topic) ∧ w'.cell? ⟨ba, oa + k * 7 + 1, none⟩ = some (.string u.payload) ∧ w'.cell? ⟨ba, oa + k * 7 + 2, none⟩ = some (.int .i64 u.qos) ∧ w'.cell? ⟨ba, oa + k * 7 + 3, none⟩ = some (.bool u.ret) ∧ w'.cell? ⟨ba, oa + k * 7 + 4, none⟩ = some (.string u.frm) ∧ w'.cell? ⟨ba, oa + k * 7 + 5, none⟩ = some (.int .i64 u.untl) ∧ w'.cell? ⟨ba, oa + k * 7 + 6, none⟩ = some (.slice ao u.props.length cap)) ∧ (w'.cell? ⟨bb, ob + k * 7, none⟩ = some (.string u.topic) ∧ w'.cell? ⟨bb, ob + k * 7 + 1, none⟩ = some (.string u.payload) ∧ w'.cell? ⟨bb, ob + k * 7 + 2, none⟩ = some (.int .i64 u.qos) ∧ w'.cell? ⟨bb, ob + k * 7 + 3, none⟩ = some (.bool u.ret) ∧ w'.cell? ⟨bb, ob + k * 7 + 4, none⟩ = some (.string u.frm) ∧ w'.cell? ⟨bb, ob + k * 7 + 5, none⟩ = some (.int .i64 u.untl) ∧ w'.cell? ⟨bb, ob + k * 7 + 6, none⟩ = some (.slice ao' u.props.length cap')))
        (first | exact (unhide HK) _ (below_drewN (Below.refl _ _) 1) | exact (unhide HK) _ (unhide HB2) | exact (unhide HK) _ (Below.refl _ _))
        (first | (go_at_call 41; refine (eqm_same u ao ao' cap cap' _ ((unhide HP).below (below_drewN (Below.refl _ _) 1)) ((unhide HP').below (below_drewN (Below.refl _ _) 1))).mono ?_; rintro e w2 ⟨rfl, hb2⟩; have HB2 : Hid (Below wr.heap.size wr w2) := (below_drewN (Below.refl _ _) 1).trans hb2; clear hb2) | fail)
      have HB3 : Hid (Below w.heap.size w w2) := (unhide HBEL).trans ((unhide HB2).mono (unhide HBEL).size)
      clear HK x0 x1 x2 x3 x4 x5 x6 y0 y1 y2 y3 y4 y5 y6 HB2
      go_wp2
      go_roundw
      case rel => exact ⟨k + 1, by omega, by go_num, HB3⟩
      case measure => simp [intOf]; omega
    · go_wp2
      go_ret
      exact ⟨rfl, unhide HBEL⟩
theorem eqms_nil (ao bo : Option Addr) (ca cb : Nat) (w : World) :
    Calls Tryz.prog 17 #[.slice ao 0 ca, .slice bo 0 cb] w fun e w' => e = .returned (.bool true) ∧ w' = w := by
  go_enter Tryz.func17, Tryz.ntmps17
  go_wp2
  refine wp_loop_rounds 1 ?_
  rw [rounds_succ]
  go_wp2
  go_ret
  exact ⟨rfl, rfl⟩
/-- two lists that are one -/
theorem eqms_same (va vb : Value) (l : List Mg) (w : World) (ha : Mgs w va l) (hb : Mgs w vb l) (hmx : l.length ≤ 140737488351232) :
    Calls Tryz.prog 17 #[va, vb] w fun e w' => e = .returned (.bool true) ∧ Below w.heap.size w w' := by
  obtain ⟨ao, ca, rfl, _, ha⟩ := ha
  obtain ⟨bo, cb, rfl, _, hb⟩ := hb
  rcases ha with rfl | ⟨ba, oa, rfl, hca⟩
  · refine (eqms_nil _ _ _ _ _).mono ?_
    rintro e w' ⟨rfl, rfl⟩
    exact ⟨rfl, Below.refl _ _⟩
  · rcases hb with rfl | ⟨bb, ob, rfl, hcb⟩
    · refine (eqms_nil _ _ _ _ _).mono ?_
      rintro e w' ⟨rfl, rfl⟩
      exact ⟨rfl, Below.refl _ _⟩
    · exact eqms_core ba oa bb ob ca cb l _ w rfl hmx hca hcb
end Go.Proofs.YtknbgnoahfeigaaGreatDoor.M
