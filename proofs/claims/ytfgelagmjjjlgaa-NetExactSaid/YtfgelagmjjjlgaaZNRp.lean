/- Proved here: messages between nodes in memory; dovecoteref0.EqRpc and EqRpcs tell true of messages that are one, CopyRpc copies one to memory of its own. Helper contracts. -/
import Derived.Test.YtfgelagmjjjlgaaZNSp
import Derived.Test.YtfgelagmjjjlgaaZKTk
import Derived.Deep.MidRow
import Derived.Deep.Cut
namespace Go.Proofs.Ytfgelagmjjjlgaa.Nt
open Go.RowKit
set_option maxRecDepth 100000

/-- a message between nodes -/
structure Rp where
  kind : Int
  frm : Int
  to : Int
  term : Int
  index : Int
  logt : Int
  com : Int
  ok : Bool
  ents : List En
  mems : List Int
  data : ByteArray
/-- a slice's parts -/
structure Sl where
  a : Option Addr
  n : Nat
  c : Nat
abbrev Sl.v (s : Sl) : Value := .slice s.a s.n s.c
/-- a message, and the slices by which it lies in memory -/
structure Mq where
  r : Rp
  es : Sl
  ms : Sl
instance : Inhabited Rp := ⟨⟨0, 0, 0, 0, 0, 0, 0, false, [], [], ⟨#[]⟩⟩⟩
instance : Inhabited Mq := ⟨⟨default, ⟨none, 0, 0⟩, ⟨none, 0, 0⟩⟩⟩
def mcs (q : Mq) : List Value := [.int .i64 q.r.kind, .int .i64 q.r.frm, .int .i64 q.r.to, .int .i64 q.r.term, .int .i64 q.r.index, .int .i64 q.r.logt, .int .i64 q.r.com, .bool q.r.ok, q.es.v, q.ms.v, .string q.r.data]
theorem mcs_len (q : Mq) : (mcs q).length = 11 := rfl
theorem mcs_one (q : Mq) : ∀ u ∈ mcs q, u.oneCell' = true := by
  intro u hu
  simp only [mcs, List.mem_cons, List.not_mem_nil, or_false] at hu
  rcases hu with rfl | rfl | rfl | rfl | rfl | rfl | rfl | rfl | rfl | rfl | rfl <;> rfl
theorem infoR : (Try.prog.info? 33).map (fun i => (i.zero, i.size, i.bytes)) = some (some (.agg #[.int .i64 0, .int .i64 0, .int .i64 0, .int .i64 0, .int .i64 0, .int .i64 0, .int .i64 0, .bool false, .slice none 0 0, .slice none 0 0, .string ⟨#[]⟩]), 11, 128) := by kernel_rfl
theorem rpc_size : (Try.prog.info? 33).map (·.size) = some 11 := by kernel_rfl
def Szs (r : Rp) : Prop := r.ents.length ≤ 3518437208780 ∧ r.mems.length ≤ 17592186043904
/-- its slices read as its lists -/
def Rok (w : World) (q : Mq) : Prop := Ens w q.es.v q.r.ents ∧ Nms w q.ms.v q.r.mems
theorem Rok.below {w w' : World} {q : Mq} (h : Rok w q) (hb : Below w.heap.size w w') : Rok w' q := ⟨h.1.below hb, h.2.below hb⟩
/-- messages that lie there -/
def RAt (w : World) (b off : Nat) (qs : List Mq) : Prop := ∀ k, k < qs.length → w.rangeAt b (off + k * 11) (mcs (qs.getD k default)) ∧ Rok w (qs.getD k default) ∧ Szs (qs.getD k default).r
theorem range_below {w w' : World} {b off : Nat} {cs : List Value} (h : w.rangeAt b off cs) (hb : Below w.heap.size w w') : w'.rangeAt b off cs := fun j v hv => (hb.cell (p := ⟨b, off + j, none⟩) (cell_lt (h j v hv))).trans (h j v hv)
theorem RAt.below {w w' : World} {b off : Nat} {qs : List Mq} (h : RAt w b off qs) (hb : Below w.heap.size w w') : RAt w' b off qs := fun k hk => ⟨range_below (h k hk).1 hb, (h k hk).2.1.below hb, (h k hk).2.2⟩
def Rps (w : World) (v : Value) (qs : List Mq) : Prop := ∃ ao cap, v = .slice ao qs.length cap ∧ (qs = [] ∨ ∃ b off, ao = some ⟨b, off, none⟩ ∧ RAt w b off qs)
theorem Rps.below {w w' : World} {v : Value} {qs : List Mq} (h : Rps w v qs) (hb : Below w.heap.size w w') : Rps w' v qs := by
  obtain ⟨ao, cap, h1, h2⟩ := h
  refine ⟨ao, cap, h1, ?_⟩
  rcases h2 with h2 | ⟨b, off, e, hc⟩
  · exact .inl h2
  · exact .inr ⟨b, off, e, hc.below hb⟩

set_option maxHeartbeats 4000000 in
theorem eqr_same (q p : Mq) (w : World) (e : q.r = p.r) (hq : Rok w q) (hp : Rok w p) (hz : Szs q.r) :
    Calls Try.prog 27 #[.agg (mcs q).toArray, .agg (mcs p).toArray] w fun e w' => e = .returned (.bool true) ∧ Below w.heap.size w w' := by
  obtain ⟨r, ⟨ea, en, ec⟩, ⟨ma, mn, mc⟩⟩ := q
  obtain ⟨r', ⟨ea', en', ec'⟩, ⟨ma', mn', mc'⟩⟩ := p
  dsimp only at e
  subst e
  obtain ⟨k1, k2, k3, k4, k5, k6, k7, k8, es, ms, dt⟩ := r
  have HQ := hide hq
  have HP := hide hp
  have HZ := hide hz
  clear hq hp hz
  show Calls Try.prog 27 #[.agg #[.int .i64 k1, .int .i64 k2, .int .i64 k3, .int .i64 k4, .int .i64 k5, .int .i64 k6, .int .i64 k7, .bool k8, .slice ea en ec, .slice ma mn mc, .string dt], .agg #[.int .i64 k1, .int .i64 k2, .int .i64 k3, .int .i64 k4, .int .i64 k5, .int .i64 k6, .int .i64 k7, .bool k8, .slice ea' en' ec', .slice ma' mn' mc', .string dt]] w _
  go_enter Try.func27, Try.ntmps27
  go_wp2_with fail
  refine (eqe_same _ _ es _ ((unhide HQ).1.below (by go_grown)) ((unhide HP).1.below (by go_grown)) (by have := (unhide HZ).1; dsimp only at this; omega)).mono ?_
  rintro e w1 ⟨rfl, hb1⟩
  have c9 : w1.cell? ⟨w.heap.size, 9, none⟩ = some (.slice ma mn mc) := (hb1.cell (by simp <;> omega)).trans (by simp)
  have c10 : w1.cell? ⟨w.heap.size, 10, none⟩ = some (.string dt) := (hb1.cell (by simp <;> omega)).trans (by simp)
  have d9 : w1.cell? ⟨w.heap.size + 1, 9, none⟩ = some (.slice ma' mn' mc') := (hb1.cell (by simp <;> omega)).trans (by simp)
  have d10 : w1.cell? ⟨w.heap.size + 1, 10, none⟩ = some (.string dt) := (hb1.cell (by simp <;> omega)).trans (by simp)
  have HB1 : Hid (Below w.heap.size w w1) := bnx (by go_grown) hb1
  have HQ2 := hide ((unhide HQ).2.below (unhide HB1))
  have HP2 := hide ((unhide HP).2.below (unhide HB1))
  clear hb1
  go_wp2_with fail
  refine (eqn_any _ _ ms ms _ (unhide HQ2) (unhide HP2)).mono ?_
  rintro e w2 ⟨he, n2, hw2⟩
  have he' : e = .returned (.bool true) := by rw [he]; simp
  subst he'
  have e9 : w2.cell? ⟨w.heap.size, 10, none⟩ = some (.string dt) := by rw [hw2]; exact c10
  have e10 : w2.cell? ⟨w.heap.size + 1, 10, none⟩ = some (.string dt) := by rw [hw2]; exact d10
  have HB2 : Hid (Below w.heap.size w w2) := by show Below _ _ _; rw [hw2]; exact below_drewN (unhide HB1) n2
  clear he hw2 c9 c10 d9 d10 HB1 HQ2 HP2
  go_wp2
  go_ret
  exact ⟨rfl, unhide HB2⟩
set_option maxHeartbeats 4000000 in
theorem eqrs_core (ba oa bb ob ca cb : Nat) (qs ps : List Mq) (len : Nat) (w : World) (hl : qs.length = len) (hl2 : ps.length = len) (hmx : len ≤ 140737488351232) (hr : qs.map (·.r) = ps.map (·.r)) (ha : RAt w ba oa qs) (hb : RAt w bb ob ps) :
    Calls Try.prog 10 #[.slice (some ⟨ba, oa, none⟩) len ca, .slice (some ⟨bb, ob, none⟩) len cb] w fun e w' => e = .returned (.bool true) ∧ Below w.heap.size w w' := by
  have HL := hide hl
  have HL2 := hide hl2
  have HR := hide hr
  have HA := hide ha
  have HB := hide hb
  clear hl hl2 hr ha hb
  go_enter Try.func10, Try.ntmps10
  go_wp2
  go_loopw [5] (fun i wr => ∃ k : Nat, k ≤ len ∧ i = .int .i64 k ∧ Hid (Below w.heap.size w wr)) (fun i _ => len - (intOf i).toNat)
  case atStart => exact ⟨0, Nat.zero_le _, rfl, Below.refl _ _⟩
  case round =>
    obtain ⟨k, hk, rfl, HBEL⟩ := hrel
    by_cases hlt : k < len
    · obtain ⟨h1, h2, h3⟩ := ((unhide HA).below (unhide HBEL)) k (by rw [unhide HL]; exact hlt)
      obtain ⟨g1, g2, g3⟩ := ((unhide HB).below (unhide HBEL)) k (by rw [unhide HL2]; exact hlt)
      have he : (qs.getD k default).r = (ps.getD k default).r := by
        have := congrArg (fun l => l[k]?) (unhide HR)
        simp only [List.getElem?_map] at this
        rw [List.getD_eq_getElem?_getD, List.getD_eq_getElem?_getD]
        rw [List.getElem?_eq_getElem (by rw [unhide HL]; exact hlt), List.getElem?_eq_getElem (by rw [unhide HL2]; exact hlt)] at this ⊢
        simpa using this
      generalize qs.getD k default = q at h1 h2 h3 he
      generalize ps.getD k default = p at g1 g2 g3 he
      have HRA : Hid (∀ W : World, Below wr.heap.size wr W → W.rangeAt ba (oa + k * 11) (mcs q) ∧ W.rangeAt bb (ob + k * 11) (mcs p)) := fun W hW => ⟨range_below h1 hW, range_below g1 hW⟩
      have HEQ := hide (fun (W : World) (hW : Below wr.heap.size wr W) => eqr_same q p W he (h2.below hW) (g2.below hW) h3)
      clear h1 h2 h3 g1 g2 g3 he
      go_upto_region 6 with fail
      refine wp_region_noPanic ?_
      refine wp_region_held_drew (S := fun W => W.rangeAt ba (oa + k * 11) (mcs q) ∧ W.rangeAt bb (ob + k * 11) (mcs p)) (by kernel_rfl) ((unhide HRA) _ (below_drewN (Below.refl _ _) 1)) (fun hHeld => ?_)
      refine rtk 0 (h := ?_)
      refine rtk 1 (h := ?_)
      refine rtk 2 (h := ?_)
      refine rtk 3 (v := .agg (mcs q).toArray) (hy := yieldsIf_load_mid (by rfl) 33 _ rfl ba (oa + k * 11) rfl (mcs q) _ (fun _ h => h.1) Try.underlying33 rfl rpc_size) (h := ?_)
      refine rtk 4 (h := ?_)
      refine rtk 5 (h := ?_)
      refine rtk 6 (h := ?_)
      refine rtk 7 (v := .agg (mcs p).toArray) (hy := yieldsIf_load_mid (by rfl) 33 _ rfl bb (ob + k * 11) rfl (mcs p) _ (fun _ h => h.2) Try.underlying33 rfl rpc_size) (h := ?_)
      refine rcl 8 (h := fun K hK => ?_)
      go_simp
      refine ((unhide HEQ) _ (below_drewN (Below.refl _ _) 1)).mono ?_
      rintro e w2 ⟨rfl, hb2⟩
      have HB2 : Hid (Below wr.heap.size wr w2) := (below_drewN (Below.refl _ _) 1).trans hb2
      clear hb2 HEQ
      go_simp
      refine hK.out _ _ ((unhide HRA) _ (unhide HB2)) (fun hHeld => ?_)
      clear hK K
      refine rtk 9 (h := ?_)
      refine wpAnyH_done (by kernel_rfl) ?_ _
      refine NoPanic.normal ?_
      have HB3 : Hid (Below w.heap.size w w2) := bnx (unhide HBEL) (unhide HB2)
      clear HRA HB2 hHeld
      go_wp2
      go_roundw
      case rel => exact ⟨k + 1, by omega, by go_num, HB3⟩
      case measure => simp [intOf]; omega
    · go_wp2
      go_ret
      exact ⟨rfl, unhide HBEL⟩
theorem eqrs_nil (ao bo : Option Addr) (ca cb : Nat) (w : World) :
    Calls Try.prog 10 #[.slice ao 0 ca, .slice bo 0 cb] w fun e w' => e = .returned (.bool true) ∧ w' = w := by
  go_enter Try.func10, Try.ntmps10
  go_wp2
  refine wp_loop_rounds 1 ?_
  rw [rounds_succ]
  go_wp2
  go_ret
  exact ⟨rfl, rfl⟩
/-- two lists that are one -/
theorem eqrs_same (va vb : Value) (qs ps : List Mq) (w : World) (hr : qs.map (·.r) = ps.map (·.r)) (ha : Rps w va qs) (hb : Rps w vb ps) (hmx : qs.length ≤ 140737488351232) :
    Calls Try.prog 10 #[va, vb] w fun e w' => e = .returned (.bool true) ∧ Below w.heap.size w w' := by
  have hl : qs.length = ps.length := by have := congrArg List.length hr; simpa using this
  obtain ⟨ao, ca, rfl, ha⟩ := ha
  obtain ⟨bo, cb, rfl, hb⟩ := hb
  rw [← hl]
  rcases ha with rfl | ⟨ba, oa, rfl, hca⟩
  · refine (eqrs_nil _ _ _ _ _).mono ?_
    rintro e w' ⟨rfl, rfl⟩
    exact ⟨rfl, Below.refl _ _⟩
  · rcases hb with rfl | ⟨bb, ob, rfl, hcb⟩
    · rw [hl]
      refine (eqrs_nil _ _ _ _ _).mono ?_
      rintro e w' ⟨rfl, rfl⟩
      exact ⟨rfl, Below.refl _ _⟩
    · exact eqrs_core ba oa bb ob ca cb qs ps _ w rfl hl.symm hmx hr hca hcb
end Go.Proofs.Ytfgelagmjjjlgaa.Nt
