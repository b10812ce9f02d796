/- Proved here: helpers, one text behind the other. -/
import Derived.Test.YtgdfnopnmdjklaaGreatDoorM4
import Derived.Test.YtgdfnopnmdjklaaGreatDoorM1
import Derived.Test.YtgdfnopnmdjklaaGreatDoorM2
import Derived.Deep.MidRow
import Derived.Laws.AppendOwn
import Derived.Deep.Cut
import Derived.Deep.CutBlock
/- Proved here: packet's reader: publish. Helper contracts. -/
namespace Go.Proofs.YtgdfnopnmdjklaaGreatDoor.K
open Go.RowKit
set_option maxRecDepth 100000

/-- readers, one behind the other -/
def bindR {α β : Type} (f : List Int → Option (α × List Int)) (g : α → List Int → Option (β × List Int)) (l : List Int) : Option (β × List Int) := (f l).bind fun r => g r.1 r.2
def pureR {α : Type} (x : α) (l : List Int) : Option (α × List Int) := some (x, l)
def mustR (b : Bool) (l : List Int) : Option (Unit × List Int) := if b then some ((), l) else none
theorem Stp.bind {α β : Type} {f : List Int → Option (α × List Int)} {g : α → List Int → Option (β × List Int)} {st st1 st2 : Option (List Int)} {x : α} {y : β} (h1 : Stp f st x st1) (h2 : Stp (g x) st1 y st2) : Stp (bindR f g) st y st2 := by
  cases st with
  | none =>
    obtain rfl : st1 = none := h1
    exact h2
  | some l =>
    unfold Stp bindR
    simp only
    unfold Stp at h1
    simp only at h1
    cases hf : f l with
    | none =>
      rw [hf] at h1
      obtain rfl : st1 = none := h1
      exact h2
    | some r =>
      obtain ⟨a, l'⟩ := r
      rw [hf] at h1
      obtain ⟨rfl, rfl⟩ := h1
      exact h2
theorem Stp.pure {α : Type} (x : α) (st : Option (List Int)) : Stp (pureR x) st x st := by
  cases st with
  | none => rfl
  | some l => exact ⟨rfl, rfl⟩
theorem Stp.must (b : Bool) (st : Option (List Int)) : Stp (mustR b) st () (if b then st else none) := by
  cases st with
  | none => cases b <;> rfl
  | some l =>
    cases b
    · rfl
    · exact ⟨rfl, rfl⟩
theorem Stp.congr {α : Type} {f g : List Int → Option (α × List Int)} (h : ∀ l, f l = g l) {st st' : Option (List Int)} {x : α} (hs : Stp f st x st') : Stp g st x st' := by
  obtain rfl : f = g := funext h
  exact hs
/-- all that is left -/
def allR (l : List Int) : Option (ByteArray × List Int) := some (bs l, [])
theorem all_any (R n : Nat) (st : Option (List Int)) (w0 w : World) (h : RS w0 w R st) (ao : Option Addr) (cap : Nat) (h19 : w.cell? ⟨R, 19, none⟩ = some (.slice ao n cap)) :
    Calls Tryz.prog 37 #[.pointer (some ⟨R, 0, none⟩), .int .i64 n] w fun e w' => ∃ v l, e = .returned v ∧ Hid (Byt w' v l) ∧ Stp allR st (bs l) (st.map fun _ => []) ∧ RS w0 w' R (st.map fun _ => []) ∧ BX R isRE w w' := by
  obtain ⟨hX, ⟨c, hd⟩, bv, l, E, hr, hb, hw, hR, hst⟩ := h
  obtain rfl : bv = .slice ao n cap := by have := hr.1.symm.trans h19; simpa using this
  have hl : n = l.length := by
    obtain ⟨ao', cap', e, _⟩ := hb.form
    simp only [Value.slice.injEq] at e
    exact e.2.1
  refine (next_ok R _ E l n w0 w hr hb (by omega)).mono ?_
  rintro e w' ⟨v, bv', rfl, hv, hbv, hr', hx⟩
  rw [hl, List.take_length] at hv
  rw [hl, List.drop_length] at hbv
  have hk := hx.keep hw hR
  refine ⟨v, l, rfl, hv.below hk, ?_, ⟨xs_grow (X := fun k => k = R) hX hx.size, ⟨c, (hx.cell 1 isRE1).trans hd⟩, bv', [], E, hr', hbv, hk, hR, ?_⟩, hx⟩
  · rcases hst with ⟨rfl, _⟩ | ⟨rfl, _⟩
    · exact ⟨rfl, rfl⟩
    · exact rfl
  · rcases hst with ⟨rfl, rfl⟩ | ⟨rfl, d, k, hd', he⟩
    · exact .inl ⟨rfl, rfl⟩
    · exact .inr ⟨rfl, d, k, hd', ErO.bx (X := fun k => k = R) hx rfl he⟩
def publish? (qos : Int) : List Int → Option ((ByteArray × Int × List Pr × ByteArray) × List Int) :=
  bindR text? fun t => bindR (if 0 < qos then id? else pureR 0) fun i => bindR (props? 3) fun x => bindR allR fun y => pureR (t, i, x, y)
def PubPost (w0 : World) (R : Nat) (p : Pkv) (st : Option (List Int)) (w : World) (e : Ending) (w' : World) : Prop :=
  e = .returned (.tuple #[]) ∧ ∃ (t : ByteArray) (i : Int) (s : Sl) (x : List Pr) (y : ByteArray) (st' : Option (List Int)), Pk w' R { p with topic := t, id := i, props := s, payload := y } ∧ Hid (w'.ownsRow w.heap.size 147 4 s.val x.length (pcs x)) ∧ Stp (publish? p.qos) st (t, i, x, y) st' ∧ RS w0 w' R st' ∧ BX R isAny w w'
/-- behind the ID: Props and Payload -/
theorem pub_end (R : Nat) (p q : Pkv) (st : Option (List Int)) (w0 w w2 : World) (t : ByteArray) (i : Int) (st2 : Option (List Int)) (HX2 : Hid (BX R isAny w w2)) (hlt : R < w.heap.size)
    (HST : Hid (∀ x y st', Stp (bindR (props? 3) fun x => bindR allR fun y => pureR (t, i, x, y)) st2 (t, i, x, y) st' → Stp (publish? p.qos) st (t, i, x, y) st')) (HQ : Hid (q = { p with topic := t, id := i }))
    (w3 : World) (s : Sl) (x : List Pr) (st3 : Option (List Int)) (hO : Hid (w3.ownsRow w2.heap.size 147 4 s.val x.length (pcs x))) (HST3 : Hid (Stp (props? 3) st2 x st3)) (HX3 : Hid (BX R isAny w2 w3)) (HP3 : Hid (Pk w3 R { q with props := s }))
    (w4 : World) (l : List Int) (HST4 : Hid (Stp allR st3 (bs l) (st3.map fun _ => []))) (HS4 : Hid (RS w0 w4 R (st3.map fun _ => []))) (HX4 : Hid (BX R isRE w3 w4)) : PubPost w0 R p st w (.returned (.tuple #[])) (w4.setCell ⟨R, 6, none⟩ (.string (bs l))) := by
  have e := unhide HQ
  subst e
  have hB : w.heap.size ≤ w2.heap.size := (unhide HX2).size
  refine ⟨rfl, t, i, s, x, bs l, _, ((unhide HP3).bx (unhide HX4)).set_payload (bs l), ?_, (unhide HST) _ _ _ ((unhide HST3).bind ((unhide HST4).bind (Stp.pure _ _))), (unhide HS4).set 6 _ (by decide), (((unhide HX2).trans (unhide HX3)).trans (unhide HX4).any).set 6 _ trivial⟩
  exact owns_mono (owns_bx (owns_bx (unhide hO) (unhide HX4) (Nat.lt_of_lt_of_le hlt hB)) ((BX.refl R isAny w4).set 6 _ trivial) (Nat.lt_of_lt_of_le hlt hB)) hB
set_option maxHeartbeats 2000000 in
theorem publish_any (R : Nat) (p : Pkv) (st : Option (List Int)) (w0 w : World) (h : RS w0 w R st) (hp : Pk w R p) (hk : p.kind = 3) (hi : p.id = 0) : Calls Tryz.prog 22 #[.pointer (some ⟨R, 0, none⟩)] w (PubPost w0 R p st w) := by
  have hlt := h.lt
  have HP := hide hp
  have HS := hide h
  have HK := hide hk
  have HI := hide hi
  clear hp h hk hi
  go_enter Tryz.func22, Tryz.ntmps22
  go_wp2_with fail
  refine (text_any R st w0 w (unhide HS)).mono ?_
  rintro e w1 ⟨t, st1, rfl, hts, hs1, h1, hx1⟩
  have hp1 := (unhide HP).bx hx1
  have c4 := hp1.topic
  have f4 := hp1.topic_f
  have c2 := hp1.qos
  have c0 := hp1.kind
  have HP1 := hide (hp1.set_topic t)
  have HS1 := hide (h1.set 4 (.string t) (by decide))
  have HX1 := hide ((hx1.any).set 4 (.string t) trivial)
  have HST1 := hide hs1
  clear hp1 h1 hx1 hs1
  rw [unhide HK] at c0
  by_cases hq : 0 < p.qos
  · go_wp2_with fail
    refine (id_any R st1 w0 _ (unhide HS1)).mono ?_
    rintro e w2 ⟨i, st2, rfl, hii, hs2, h2, hx2⟩
    have hp2 := (unhide HP1).bx hx2
    have d5 := hp2.id
    have g5 := hp2.id_f
    have d0 := hp2.kind
    have HP2 := hide (hp2.set_id i)
    have HS2 := hide (h2.set 5 (.int .i64 i) (by decide))
    have HX2 := hide (((unhide HX1).trans hx2.any).set 5 (.int .i64 i) trivial)
    have HST2 : Hid (∀ x y st', Stp (bindR (props? 3) fun x => bindR allR fun y => pureR (t, i, x, y)) st2 (t, i, x, y) st' → Stp (publish? p.qos) st (t, i, x, y) st') := fun x y st' k => by
      unfold publish?
      rw [if_pos hq]
      exact (unhide HST1).bind (hs2.bind k)
    clear hp2 h2 hx2 hs2 c4 f4 c2 c0
    rw [show ({ p with topic := t } : Pkv).kind = 3 from unhide HK] at d0
    go_wp2_with fail
    refine (props_any R 3 st2 w0 _ (unhide HS2)).mono ?_
    rintro e w3 ⟨s, x, st3, rfl, hO, hs3, h3, hx3⟩
    have hp3 := (unhide HP2).bx hx3
    have e7 := hp3.props
    have f7 := hp3.props_f
    obtain ⟨ao, n, cap, g19, ⟨gc1, gc2⟩, gl⟩ := (h3.set 7 s.val (by decide)).rest
    unfold maxLen at gc2
    have G19 := hide g19
    have k19 : w3.cell? ⟨R, 19, none⟩ = some (.slice ao n cap) := by rw [World.cell?_setCell_other _ _ _ _ (by intro e; simp at e)] at g19; exact g19
    have HP3 := hide (hp3.set_props s)
    have HS3 := hide (h3.set 7 s.val (by decide))
    have HX3 := hide ((hx3.any).set 7 s.val trivial)
    have HST3 := hide hs3
    have HO3 : Hid ((w3.setCell ⟨R, 7, none⟩ s.val).ownsRow (w2.setCell ⟨R, 5, none⟩ (.int .i64 i)).heap.size 147 4 s.val x.length (pcs x)) := owns_bx (unhide hO) ((BX.refl R isAny w3).set 7 _ trivial) (Nat.lt_of_lt_of_le hlt (unhide HX2).size)
    clear hp3 h3 hx3 hs3 d5 g5 d0 g19 gl hO
    go_wp2_with fail
    refine (all_any R n st3 w0 _ (unhide HS3) ao cap (unhide G19)).mono ?_
    rintro e w4 ⟨v, l, rfl, hv, hs4, h4, hx4⟩
    have hcv := conv_byt w4 v l (unhide hv)
    have hp4 := (unhide HP3).bx hx4
    have c6 := hp4.payload
    have f6 := hp4.payload_f
    have HX4 := hide hx4
    have HS4 := hide h4
    have HST4 := hide hs4
    clear hx4 h4 hs4 hp4 e7 f7 k19 hv
    go_wp2
    go_end0
    exact pub_end R p { p with topic := t, id := i } st w0 w _ t i st2 HX2 hlt HST2 (hide rfl) _ s x st3 HO3 HST3 HX3 HP3 w4 l HST4 HS4 HX4
  · have HST2 : Hid (∀ x y st', Stp (bindR (props? 3) fun x => bindR allR fun y => pureR (t, (0 : Int), x, y)) st1 (t, (0 : Int), x, y) st' → Stp (publish? p.qos) st (t, (0 : Int), x, y) st') := fun x y st' k => by
      unfold publish?
      rw [if_neg hq]
      exact (unhide HST1).bind ((Stp.pure 0 st1).bind k)
    go_wp2_with fail
    refine (props_any R 3 st1 w0 _ (unhide HS1)).mono ?_
    rintro e w3 ⟨s, x, st3, rfl, hO, hs3, h3, hx3⟩
    have hp3 := (unhide HP1).bx hx3
    have e7 := hp3.props
    have f7 := hp3.props_f
    obtain ⟨ao, n, cap, g19, ⟨gc1, gc2⟩, gl⟩ := (h3.set 7 s.val (by decide)).rest
    unfold maxLen at gc2
    have G19 := hide g19
    have k19 : w3.cell? ⟨R, 19, none⟩ = some (.slice ao n cap) := by rw [World.cell?_setCell_other _ _ _ _ (by intro e; simp at e)] at g19; exact g19
    have HP3 := hide (hp3.set_props s)
    have HS3 := hide (h3.set 7 s.val (by decide))
    have HX3 := hide ((hx3.any).set 7 s.val trivial)
    have HST3 := hide hs3
    have HO3 : Hid ((w3.setCell ⟨R, 7, none⟩ s.val).ownsRow (w1.setCell ⟨R, 4, none⟩ (.string t)).heap.size 147 4 s.val x.length (pcs x)) := owns_bx (unhide hO) ((BX.refl R isAny w3).set 7 _ trivial) (Nat.lt_of_lt_of_le hlt (unhide HX1).size)
    clear hp3 h3 hx3 hs3 c4 f4 c2 c0 g19 gl hO
    go_wp2_with fail
    refine (all_any R n st3 w0 _ (unhide HS3) ao cap (unhide G19)).mono ?_
    rintro e w4 ⟨v, l, rfl, hv, hs4, h4, hx4⟩
    have hcv := conv_byt w4 v l (unhide hv)
    have hp4 := (unhide HP3).bx hx4
    have c6 := hp4.payload
    have f6 := hp4.payload_f
    have HX4 := hide hx4
    have HS4 := hide h4
    have HST4 := hide hs4
    clear hx4 h4 hs4 hp4 e7 f7 k19 hv
    go_wp2
    go_end0
    exact pub_end R p { p with topic := t } st w0 w _ t 0 st1 HX1 hlt HST2 (by show _ = _; rw [← unhide HI]) _ s x st3 HO3 HST3 HX3 HP3 w4 l HST4 HS4 HX4
end Go.Proofs.YtgdfnopnmdjklaaGreatDoor.K
/- Proved here: packet's reader: sub. Helper contracts. -/
namespace Go.Proofs.YtgdfnopnmdjklaaGreatDoor.K
open Go.RowKit
set_option maxRecDepth 100000

/-- a subscription -/
structure Sb where
  filter : ByteArray
  qos : Int
  nolocal : Bool
  aspub : Bool
  handling : Int
abbrev Sb.val (s : Sb) : Value := .agg #[.string s.filter, .int .i64 s.qos, .bool s.nolocal, .bool s.aspub, .int .i64 s.handling]
/-- a byte's parts -/
def btest (x k : Int) : Bool := decide (x / k % 2 = 1)
def sbOf (f : ByteArray) (o : Int) : Sb := ⟨f, o % 4, btest o 4, btest o 8, o / 16⟩
def sub? : List Int → Option (Sb × List Int) := bindR text? fun f => bindR one? fun o => bindR (mustR (opk (o % 4) (o / 16))) fun _ => pureR (sbOf f o)
theorem byte_cases {P : Int → Prop} (h : ∀ n : Fin 256, P (n.val : Int)) (x : Int) (h0 : 0 ≤ x) (h1 : x ≤ 255) : P x := by
  obtain ⟨n, rfl⟩ := Int.eq_ofNat_of_zero_le h0
  exact h ⟨n, by omega⟩
theorem and3 (x : Int) (h0 : 0 ≤ x) (h1 : x ≤ 255) : bits .and .i64 x 3 = x % 4 := byte_cases (P := fun x => bits .and .i64 x 3 = x % 4) (by decide +kernel) x h0 h1
theorem and4 (x : Int) (h0 : 0 ≤ x) (h1 : x ≤ 255) : (bits .and .i64 x 4 != 0) = btest x 4 := byte_cases (P := fun x => (bits .and .i64 x 4 != 0) = btest x 4) (by decide +kernel) x h0 h1
theorem and8 (x : Int) (h0 : 0 ≤ x) (h1 : x ≤ 255) : (bits .and .i64 x 8 != 0) = btest x 8 := byte_cases (P := fun x => (bits .and .i64 x 8 != 0) = btest x 8) (by decide +kernel) x h0 h1
theorem sh4 (x : Int) (h0 : 0 ≤ x) (h1 : x ≤ 255) : x >>> 4 = x / 16 := byte_cases (P := fun x => x >>> 4 = x / 16) (by decide +kernel) x h0 h1
/-- a step that tells a subscription -/
def RdSubX (w0 : World) (R : Nat) (X : Nat → Prop) (st : Option (List Int)) (w : World) (e : Ending) (w' : World) : Prop :=
  ∃ (x : Sb) (st' : Option (List Int)), e = .returned x.val ∧ Stp sub? st x st' ∧ RSX w0 w' R X st' ∧ BX R isRE w w'
theorem BX.frz {R : Nat} {may : Nat → Prop} {a b : World} (h : BX R may a b) {p : Addr} (hp : p.block < a.heap.size) (hR : p.block ≠ R) : b.frozen? p = a.frozen? p := World.frozen?_of_block (h.block p.block hp hR)
/-- a return of a subscription that lies in memory -/
theorem res_sub {fn : Func} {a : Tmp} (h : fn.results = #[.cell a 80]) {tmps : Array Value} {w : World} {B : Nat} {v0 v1 v2 v3 v4 : Value} (ha : tmps[a]?.getD undef = .pointer (some ⟨B, 0, none⟩)) (c0 : w.cell? ⟨B, 0, none⟩ = some v0) (c1 : w.cell? ⟨B, 1, none⟩ = some v1) (c2 : w.cell? ⟨B, 2, none⟩ = some v2) (c3 : w.cell? ⟨B, 3, none⟩ = some v3) (c4 : w.cell? ⟨B, 4, none⟩ = some v4) :
    (results fn tmps).run Tryz.prog w = .ok (.agg #[v0, v1, v2, v3, v4]) w := by
  simp [results, h, ha, go_sem, c0, c1, c2, c3, c4]
set_option maxHeartbeats 2000000 in
theorem sub_anyX (R : Nat) (X : Nat → Prop) (st : Option (List Int)) (w0 w : World) (h : RSX w0 w R X st) : Calls Tryz.prog 40 #[.pointer (some ⟨R, 0, none⟩)] w (RdSubX w0 R X st w) := by
  have hlt := h.lt
  have HS := hide h
  clear h
  go_enter Tryz.func40, Tryz.ntmps40
  go_wp2_with fail
  refine (text_anyX R X st w0 _ ((unhide HS).below ((Below.refl _ _).alloc (Nat.le_refl _) _))).mono ?_
  rintro e w1 ⟨f, st1, rfl, hfs, hs1, h1, hx1⟩
  have HS1 := hide h1
  have HX1 := hide hx1
  have HST1 := hide hs1
  clear h1 hx1 hs1
  go_wp2_with fail
  refine (one_anyX R X st1 w0 _ ((unhide HS1).below ((Below.refl _ _).alloc (Nat.le_refl _) _))).mono ?_
  rintro e w2 ⟨o, st2, rfl, ho, hs2, h2, hx2⟩
  have hR1 : R < w1.heap.size := Nat.lt_of_lt_of_le (Nat.lt_succ_of_lt hlt) (by simpa using (unhide HX1).size)
  have hQ1 : w.heap.size < w1.heap.size := by
    have := (unhide HX1).size
    simp at this
    omega
  have v0 := hx2.far (p := ⟨w1.heap.size, 0, none⟩) (v := .string f) (by simp) (by simp; omega)
  have v1 := hx2.far (p := ⟨w1.heap.size, 1, none⟩) (v := .int .i64 0) (by simp) (by simp; omega)
  have v2 := hx2.far (p := ⟨w1.heap.size, 2, none⟩) (v := .bool false) (by simp) (by simp; omega)
  have v3 := hx2.far (p := ⟨w1.heap.size, 3, none⟩) (v := .bool false) (by simp) (by simp; omega)
  have v4 := hx2.far (p := ⟨w1.heap.size, 4, none⟩) (v := .int .i64 0) (by simp) (by simp; omega)
  have u1 : w2.frozen? ⟨w1.heap.size, 1, none⟩ = false := (hx2.frz (p := ⟨w1.heap.size, 1, none⟩) (by simp) (by simp; omega)).trans (by simp)
  have u2 : w2.frozen? ⟨w1.heap.size, 2, none⟩ = false := (hx2.frz (p := ⟨w1.heap.size, 2, none⟩) (by simp) (by simp; omega)).trans (by simp)
  have u3 : w2.frozen? ⟨w1.heap.size, 3, none⟩ = false := (hx2.frz (p := ⟨w1.heap.size, 3, none⟩) (by simp) (by simp; omega)).trans (by simp)
  have u4 : w2.frozen? ⟨w1.heap.size, 4, none⟩ = false := (hx2.frz (p := ⟨w1.heap.size, 4, none⟩) (by simp) (by simp; omega)).trans (by simp)
  have qb : w2.heap[w.heap.size]? = some (.cells #[.string ⟨#[]⟩, .int .i64 0, .bool false, .bool false, .int .i64 0] 80) := by
    rw [hx2.block w.heap.size (by simp; omega) (by omega), ((Below.refl w1.heap.size w1).alloc (Nat.le_refl _) _).block w.heap.size hQ1, (unhide HX1).block w.heap.size (by simp) (by omega)]
    exact Array.getElem?_push_size
  have QB := hide qb
  have b1 := and3 o ho.1 ho.2
  have b2 := and4 o ho.1 ho.2
  have b3 := and8 o ho.1 ho.2
  have b4 := sh4 o ho.1 ho.2
  have HS2 := hide h2
  have HX2 := hide hx2
  have HST2 := hide hs2
  clear h2 hx2 hs2 qb
  have HS3 : Hid (RSX w0 ((((w2.setCell ⟨w1.heap.size, 1, none⟩ (.int .i64 (o % 4))).setCell ⟨w1.heap.size, 4, none⟩ (.int .i64 (o / 16))).setCell ⟨w1.heap.size, 2, none⟩ (.bool (btest o 4))).setCell ⟨w1.heap.size, 3, none⟩ (.bool (btest o 8))) R X st2) := by
    have hne : w1.heap.size ≠ R := by omega
    have h0 := Nat.le_trans (unhide HS1).keep.size (Nat.le_refl _)
    refine ((((unhide HS2).setOut _ 1 _ hne h0 ?_).setOut _ 4 _ hne h0 ?_).setOut _ 2 _ hne h0 ?_).setOut _ 3 _ hne h0 ?_
    · intro t x e; rw [v1] at e; cases e
    all_goals (intro t x e; simp (maxDischargeDepth := 12) [cell_set, v1] at e)
  have HX3 : Hid (BX R isRE w ((((w2.setCell ⟨w1.heap.size, 1, none⟩ (.int .i64 (o % 4))).setCell ⟨w1.heap.size, 4, none⟩ (.int .i64 (o / 16))).setCell ⟨w1.heap.size, 2, none⟩ (.bool (btest o 4))).setCell ⟨w1.heap.size, 3, none⟩ (.bool (btest o 8)))) := by
    have hq := Nat.le_of_lt hQ1
    have k0 : BX R isRE w w2 := ((BX.of_below ((Below.refl _ _).alloc (Nat.le_refl _) _) hlt).trans (unhide HX1)).trans ((BX.of_below ((Below.refl _ _).alloc (Nat.le_refl _) _) hR1).trans (unhide HX2))
    exact (((k0.setOut _ 1 _ hq hlt).setOut _ 4 _ hq hlt).setOut _ 2 _ hq hlt).setOut _ 3 _ hq hlt
  go_wp2_with fail
  refine (optionsOf_any f (o % 4) (btest o 4) (btest o 8) (o / 16) _).mono ?_
  rintro e w3 ⟨rfl, hb3⟩
  have HS4 := hide ((unhide HS3).below hb3)
  have HX4 : Hid (BX R isRE w w3) := (unhide HX3).trans (BX.of_below hb3 (unhide HS3).lt)
  have HB3 := hide hb3
  clear hb3
  go_wp2_with fail
  refine (must_anyX R X _ st2 w0 w3 (unhide HS4)).mono ?_
  rintro e w4 ⟨rfl, h4, hx4⟩
  have vb : w4.heap[w1.heap.size]? = ((((w2.setCell ⟨w1.heap.size, 1, none⟩ (.int .i64 (o % 4))).setCell ⟨w1.heap.size, 4, none⟩ (.int .i64 (o / 16))).setCell ⟨w1.heap.size, 2, none⟩ (.bool (btest o 4))).setCell ⟨w1.heap.size, 3, none⟩ (.bool (btest o 8))).heap[w1.heap.size]? := by
    have hl := cell_lt v0
    rw [hx4.block w1.heap.size (Nat.lt_of_lt_of_le hl (by simpa [World.setCell] using (unhide HB3).size)) (by omega), (unhide HB3).block w1.heap.size (by simpa [World.setCell] using hl)]
  have x0 : w4.cell? ⟨w1.heap.size, 0, none⟩ = some (.string f) := (World.cell?_of_block (a := ⟨w1.heap.size, 0, none⟩) vb).trans (by simp (maxDischargeDepth := 12) [cell_set, v0])
  have x1 : w4.cell? ⟨w1.heap.size, 1, none⟩ = some (.int .i64 (o % 4)) := (World.cell?_of_block (a := ⟨w1.heap.size, 1, none⟩) vb).trans (by simp (maxDischargeDepth := 12) [cell_set, v1])
  have x2 : w4.cell? ⟨w1.heap.size, 2, none⟩ = some (.bool (btest o 4)) := (World.cell?_of_block (a := ⟨w1.heap.size, 2, none⟩) vb).trans (by simp (maxDischargeDepth := 12) [cell_set, v2])
  have x3 : w4.cell? ⟨w1.heap.size, 3, none⟩ = some (.bool (btest o 8)) := (World.cell?_of_block (a := ⟨w1.heap.size, 3, none⟩) vb).trans (by simp (maxDischargeDepth := 12) [cell_set, v3])
  have x4 : w4.cell? ⟨w1.heap.size, 4, none⟩ = some (.int .i64 (o / 16)) := (World.cell?_of_block (a := ⟨w1.heap.size, 4, none⟩) vb).trans (by simp (maxDischargeDepth := 12) [cell_set, v4])
  have qb : w4.heap[w.heap.size]? = some (.cells #[.string ⟨#[]⟩, .int .i64 0, .bool false, .bool false, .int .i64 0] 80) := by
    have hl := Nat.lt_trans hQ1 (cell_lt v0)
    rw [hx4.block w.heap.size (Nat.lt_of_lt_of_le hl (by simpa [World.setCell] using (unhide HB3).size)) (by omega), (unhide HB3).block w.heap.size (by simpa [World.setCell] using hl)]
    rw [Below.heap_setCell _ _ _ _ (by show _ ≠ w1.heap.size; omega), Below.heap_setCell _ _ _ _ (by show _ ≠ w1.heap.size; omega), Below.heap_setCell _ _ _ _ (by show _ ≠ w1.heap.size; omega), Below.heap_setCell _ _ _ _ (by show _ ≠ w1.heap.size; omega)]
    exact unhide QB
  have y0 : w4.cell? ⟨w.heap.size, 0, none⟩ = some (.string ⟨#[]⟩) := by simp [World.cell?, qb]
  have y1 : w4.cell? ⟨w.heap.size, 1, none⟩ = some (.int .i64 0) := by simp [World.cell?, qb]
  have y2 : w4.cell? ⟨w.heap.size, 2, none⟩ = some (.bool false) := by simp [World.cell?, qb]
  have y3 : w4.cell? ⟨w.heap.size, 3, none⟩ = some (.bool false) := by simp [World.cell?, qb]
  have y4 : w4.cell? ⟨w.heap.size, 4, none⟩ = some (.int .i64 0) := by simp [World.cell?, qb]
  have z : ∀ j, w4.frozen? ⟨w.heap.size, j, none⟩ = false := fun j => by simp [World.frozen?, qb]
  have HS5 := hide h4
  have HX5 := hide hx4
  clear h4 hx4 vb qb v0 v1 v2 v3 v4 u1 u2 u3 u4 b1 b2 b3 b4
  go_wp2
  refine bodyPost_ret (res_sub (B := w.heap.size) (v0 := .string f) (v1 := .int .i64 (o % 4)) (v2 := .bool (btest o 4)) (v3 := .bool (btest o 8)) (v4 := .int .i64 (o / 16)) rfl rfl ?c0 ?c1 ?c2 ?c3 ?c4) rfl ?_
  case c0 => simp (maxDischargeDepth := 12) [cell_set, y0]
  case c1 => simp (maxDischargeDepth := 12) [cell_set, y1]
  case c2 => simp (maxDischargeDepth := 12) [cell_set, y2]
  case c3 => simp (maxDischargeDepth := 12) [cell_set, y3]
  case c4 => simp (maxDischargeDepth := 12) [cell_set, y4]
  have hle := Nat.le_refl w.heap.size
  have hne : w.heap.size ≠ R := by omega
  have h0 : w0.heap.size ≤ w.heap.size := (unhide HS).keep.size
  refine ⟨sbOf f o, _, rfl, (unhide HST1).bind ((unhide HST2).bind ((Stp.must _ st2).bind (Stp.pure _ _))), ?_, ((((((unhide HX4).trans (unhide HX5)).setOut _ 0 _ hle hlt).setOut _ 1 _ hle hlt).setOut _ 2 _ hle hlt).setOut _ 3 _ hle hlt).setOut _ 4 _ hle hlt⟩
  refine (((((unhide HS5).setOut _ 0 _ hne h0 ?_).setOut _ 1 _ hne h0 ?_).setOut _ 2 _ hne h0 ?_).setOut _ 3 _ hne h0 ?_).setOut _ 4 _ hne h0 ?_
  · intro t x e; rw [y1] at e; cases e
  all_goals (intro t x e; simp (maxDischargeDepth := 12) [cell_set, y1] at e)
end Go.Proofs.YtgdfnopnmdjklaaGreatDoor.K
/- Proved here: readers that read till the end (many), plainly. Helpers that name no function. -/
namespace Go.Proofs.YtgdfnopnmdjklaaGreatDoor.K
open Go.RowKit

theorem bel_drew (w : World) : Below w.heap.size w w.drew := kbelow_drew w
def many {α : Type} (f : List Int → Option (α × List Int)) : Nat → List Int → Option (List α × List Int)
  | 0, l => if l = [] then some ([], []) else none
  | n + 1, l => if l = [] then some ([], []) else (f l).bind fun r => (many f n r.2).map fun s => (r.1 :: s.1, s.2)
/-- it reads something -/
def Shr {α : Type} (f : List Int → Option (α × List Int)) : Prop := ∀ l x l', f l = some (x, l') → l'.length < l.length
def manyR {α : Type} (f : List Int → Option (α × List Int)) (l : List Int) : Option (List α × List Int) := many f l.length l
theorem many_nil {α : Type} (f : List Int → Option (α × List Int)) (n : Nat) : many f n [] = some ([], []) := by cases n <;> simp [many]
theorem many_fuel {α : Type} {f : List Int → Option (α × List Int)} (hf : Shr f) : ∀ (n m : Nat) (l : List Int), l.length ≤ n → l.length ≤ m → many f n l = many f m l
  | 0, m, l, hn, _ => by
    obtain rfl : l = [] := List.length_eq_zero_iff.1 (by omega)
    rw [many_nil, many_nil]
  | n + 1, 0, l, _, hm => by
    obtain rfl : l = [] := List.length_eq_zero_iff.1 (by omega)
    rw [many_nil, many_nil]
  | n + 1, m + 1, l, hn, hm => by
    unfold many
    by_cases hl : l = []
    · simp [hl]
    · simp only [if_neg hl]
      cases h : f l with
      | none => rfl
      | some r =>
        have := hf l r.1 r.2 h
        simp only [Option.bind_some]
        rw [many_fuel hf n m r.2 (by omega) (by omega)]
theorem manyR_cons {α : Type} {f : List Int → Option (α × List Int)} (hf : Shr f) (l : List Int) (hl : l ≠ []) : manyR f l = (f l).bind fun r => (manyR f r.2).map fun s => (r.1 :: s.1, s.2) := by
  unfold manyR
  obtain ⟨n, hn⟩ : ∃ n, l.length = n + 1 := ⟨l.length - 1, by have := List.length_pos_iff.2 hl; omega⟩
  rw [hn]
  show (if l = [] then _ else _) = _
  rw [if_neg hl]
  cases h : f l with
  | none => rfl
  | some r =>
    have := hf l r.1 r.2 h
    simp only [Option.bind_some]
    rw [many_fuel hf n r.2.length r.2 (by omega) (Nat.le_refl _)]
/-- what was gathered so far -/
def Acc {α : Type} (f : List Int → Option (α × List Int)) (st0 : Option (List Int)) (d : List α) (st : Option (List Int)) : Prop :=
  match st0 with
  | none => st = none
  | some l0 => match st with
    | none => manyR f l0 = none
    | some l => manyR f l0 = (manyR f l).map fun s => (d ++ s.1, s.2)
theorem Acc.start {α : Type} (f : List Int → Option (α × List Int)) (st : Option (List Int)) : Acc f st [] st := by
  cases st with
  | none => rfl
  | some l => simp [Acc]
theorem Acc.step {α : Type} {f : List Int → Option (α × List Int)} {st0 st' : Option (List Int)} {d : List α} {x : α} {l : List Int} (hf : Shr f) (h : Acc f st0 d (some l)) (hs : Stp f (some l) x st') (hl : l ≠ []) : Acc f st0 (d ++ [x]) st' := by
  cases st0 with
  | none => cases h
  | some l0 =>
    unfold Acc at h
    simp only at h
    rw [manyR_cons hf l hl] at h
    unfold Stp at hs
    simp only at hs
    cases hq : f l with
    | none =>
      rw [hq] at hs h
      obtain rfl : st' = none := hs
      simpa [Acc] using h
    | some r =>
      obtain ⟨y, l'⟩ := r
      rw [hq] at hs h
      obtain ⟨rfl, rfl⟩ := hs
      simp only [Option.bind_some, Option.map_map] at h
      show manyR f l0 = _
      rw [h]
      congr 1
      funext s
      simp
theorem Acc.done {α : Type} {f : List Int → Option (α × List Int)} {st0 st : Option (List Int)} {d : List α} (h : Acc f st0 d st) (he : st = none ∨ st = some []) : Stp (manyR f) st0 d st := by
  cases st0 with
  | none => exact h
  | some l0 =>
    rcases he with rfl | rfl
    · have h : manyR f l0 = none := h
      simp [Stp, h]
    · have h : manyR f l0 = (manyR f []).map fun s => (d ++ s.1, s.2) := h
      rw [show manyR f [] = some ([], []) from many_nil f 0] at h
      simp [Stp, h]
theorem one?_shr : Shr one? := by
  intro l x l' h
  cases l with
  | nil => cases h
  | cons a t => simp [one?] at h; obtain ⟨_, rfl⟩ := h; simp
theorem text?_shr : Shr text? := by
  intro l x l' h
  unfold text? gt at h
  by_cases hf : full l = true
  · rw [if_pos hf] at h
    have := full_len l hf
    by_cases hu : utf (sb (gbs l)) = true
    · rw [if_pos hu] at h
      simp only [if_true, Option.some.injEq, Prod.mk.injEq] at h
      obtain ⟨_, rfl⟩ := h
      rw [List.length_drop, Int.toNat_natCast]
      omega
    · rw [if_neg hu] at h
      simp at h
  · rw [if_neg hf] at h
    simp at h
theorem bind_shr {α β : Type} {f : List Int → Option (α × List Int)} {g : α → List Int → Option (β × List Int)} (hf : Shr f) (hg : ∀ x l y l', g x l = some (y, l') → l'.length ≤ l.length) : Shr (bindR f g) := by
  intro l y l' h
  unfold bindR at h
  cases hq : f l with
  | none => rw [hq] at h; cases h
  | some r =>
    rw [hq] at h
    have h1 := hf l r.1 r.2 hq
    have h2 := hg r.1 r.2 y l' h
    omega
theorem sub?_shr : Shr sub? := by
  refine bind_shr text?_shr (fun f l y l' h => ?_)
  refine Nat.le_of_lt (bind_shr one?_shr (fun o l y l' h => ?_) l y l' h)
  unfold bindR mustR at h
  split at h
  · simp [pureR] at h
    rw [h.2]
    exact Nat.le_refl _
  · cases h
theorem stp_len {α : Type} {f : List Int → Option (α × List Int)} (hf : Shr f) {l l' : List Int} {x : α} (h : Stp f (some l) x (some l')) : l'.length < l.length := by
  unfold Stp at h
  simp only at h
  cases hq : f l with
  | none => rw [hq] at h; cases h
  | some r =>
    obtain ⟨y, l2⟩ := r
    rw [hq] at h
    obtain ⟨_, e⟩ := h
    cases e
    exact hf l y l' hq
def list? {α : Type} (f : List Int → Option (α × List Int)) : List Int → Option (List α × List Int) := bindR (manyR f) fun d => bindR (mustR (mc d.length)) fun _ => pureR d
/-- how long the loop goes on at most -/
def mlen (R : Nat) (w : World) : Nat := match w.cell? ⟨R, 20, none⟩ with
  | some .nilIface => match w.cell? ⟨R, 19, none⟩ with
    | some (.slice _ n _) => n + 1
    | _ => 0
  | _ => 0
theorem mlen_some {w0 w : World} {R : Nat} {X : Nat → Prop} {l : List Int} (h : RSX w0 w R X (some l)) : mlen R w = l.length + 1 := by
  obtain ⟨_, _, bv, l', E, hr, hb, _, _, hst⟩ := h
  obtain ⟨ao, cap, rfl, _⟩ := hb.form
  rcases hst with ⟨e, rfl⟩ | ⟨e, _⟩
  · cases e
    unfold mlen
    rw [hr.2.2.1, hr.1]
  · cases e
theorem mlen_none {w0 w : World} {R : Nat} {X : Nat → Prop} (h : RSX w0 w R X none) : mlen R w = 0 := by
  obtain ⟨_, _, bv, l', E, hr, hb, _, _, hst⟩ := h
  rcases hst with ⟨e, _⟩ | ⟨_, d, n, _, he⟩
  · cases e
  · obtain ⟨t, x, rfl⟩ := he.iface
    unfold mlen
    rw [hr.2.2.1]
theorem RSX.err {w0 w : World} {R : Nat} {X : Nat → Prop} {st : Option (List Int)} (h : RSX w0 w R X st) : (∃ l, st = some l ∧ w.cell? ⟨R, 20, none⟩ = some .nilIface) ∨ (st = none ∧ ∃ t x, w.cell? ⟨R, 20, none⟩ = some (.iface t x)) := by
  obtain ⟨_, _, bv, l', E, hr, hb, _, _, hst⟩ := h
  rcases hst with ⟨e, rfl⟩ | ⟨e, d, n, _, he⟩
  · exact .inl ⟨l', e, hr.2.2.1⟩
  · obtain ⟨t, x, rfl⟩ := he.iface
    exact .inr ⟨e, t, x, hr.2.2.1⟩
/-- a row of one's own grows: the reader stays -/
theorem RSX.grown {w0 w w' : World} {R : Nat} {X : Nat → Prop} {st : Option (List Int)} {row : Option Nat} (h : RSX w0 w R X st) (hg : w.grownBy w' row) (hX : ∀ g, row = some g → X g) (hR : row ≠ some R) (h0 : ∀ g, row = some g → w0.heap.size ≤ g) : RSX w0 w' R X st := by
  obtain ⟨hXX, ⟨x, hd⟩, bv, l, E, ⟨r1, r2, r3, r4⟩, hb, hw, hR0, hst⟩ := h
  have hblk : w'.heap[R]? = w.heap[R]? := hg.block R (cell_lt hd) (fun e => hR e.symm)
  have hc : ∀ j, w'.cell? ⟨R, j, none⟩ = w.cell? ⟨R, j, none⟩ := fun j => World.cell?_of_block hblk
  have hf : ∀ j, w'.frozen? ⟨R, j, none⟩ = w.frozen? ⟨R, j, none⟩ := fun j => World.frozen?_of_block hblk
  refine ⟨xs_grow hXX hg.size, ⟨x, (hc 1).trans hd⟩, bv, l, E, ⟨(hc 19).trans r1, (hf 19).trans r2, (hc 20).trans r3, (hf 20).trans r4⟩, hb, ⟨hg.os.trans hw.os, hg.tape.trans hw.tape, hg.output.trans hw.output, Nat.le_trans hw.size hg.size, fun k hk => (hg.block k (Nat.lt_of_lt_of_le hk hw.size) (fun e => by have := h0 k e.symm; omega)).trans (hw.block k hk)⟩, hR0, ?_⟩
  have key : ∀ {d : Nat} {v : Value} {n : Int}, ErO w X d v n → ErO w' X d v n := by
    intro d
    induction d with
    | zero => intro v n h; exact h
    | succ d ih =>
      rintro v n ⟨b, u, h1, hR, h2, h3⟩
      exact ⟨b, u, h1, hR, (World.cell?_of_block (a := ⟨b, 1, none⟩) (hg.block b (cell_lt h2) (fun e => hR (hX b e.symm)))).trans h2, ih h3⟩
  rcases hst with h | ⟨h, d, n, hd, he⟩
  · exact .inl h
  · exact .inr ⟨h, d, n, hd, key he⟩
theorem BX.grown {R : Nat} {may : Nat → Prop} {a b c : World} {row : Option Nat} (h : BX R may a b) (hg : b.grownBy c row) (hrow : ∀ g, row = some g → a.heap.size ≤ g) (hR : R < a.heap.size) : BX R may a c := by
  have hblk : c.heap[R]? = b.heap[R]? := hg.block R (Nat.lt_of_lt_of_le hR h.size) (fun e => by have := hrow R e.symm; omega)
  exact h.trans' ⟨hg.os, hg.tape, hg.output, hg.size, fun k hk _ => hg.block k (Nat.lt_of_lt_of_le hk h.size) (fun e => by have := hrow k e.symm; omega), fun j _ => World.cell?_of_block hblk, fun j => World.frozen?_of_block hblk⟩
theorem Pk.grown {w w' : World} {R : Nat} {p : Pkv} {row : Option Nat} (h : Pk w R p) (hg : w.grownBy w' row) (hR : row ≠ some R) : Pk w' R p := fun j hj => by
  have hblk : w'.heap[R]? = w.heap[R]? := hg.block R (cell_lt (h 0 (by omega)).1) (fun e => hR e.symm)
  exact ⟨(World.cell?_of_block hblk).trans (h j hj).1, (World.frozen?_of_block hblk).trans (h j hj).2⟩
/-- append, at a step of a region that draws its order -/
theorem step_append_run {w : World} {ops : Array Oper} {o : Oper} {a : Act} {K : Act → World → Prop} {Q : Exit → Act → World → Prop} {E : Prop} {Z : Value → World → Prop} (hgd : o.guard = none) (s x : Operand) (t : TypeId)
    (ho : o.op = .call { callee := .builtin .append, args := #[s, x], argTypes := #[t, t] }) (v vx : Value) (hs : a.eval s = v) (hx : a.eval x = vx)
    (hr : ∃ v' w', (Builtin.append_ #[t, t] o.type #[v, vx]).run Tryz.prog w = .ok v' w' ∧ Z v' w') (h : ∀ v' w', Z v' w' → K (a.put o.dst v') w') :
    if Region.wanted o (yielded ops a.tmps) = true then Oper.wp Tryz.prog o a w K Q else E := by
  have hw : Region.wanted o (yielded ops a.tmps) = true := by simp [Region.wanted, hgd]
  rw [if_pos hw]
  obtain ⟨v', w', hr, h2⟩ := hr
  unfold Oper.wp execOp
  simp only [ho, resolve, invoke, builtin, Sem.run_bind, Sem.run_pure, Result.andThen_ok, List.map_toArray, List.map_cons, List.map_nil, hs, hx, hr]
  exact h v' w' h2
end Go.Proofs.YtgdfnopnmdjklaaGreatDoor.K
/- Proved here: packet.connectFlags tells a Connect's flags, and whether they may be. Helper contracts. -/
namespace Go.Proofs.YtgdfnopnmdjklaaGreatDoor.K
open Go.RowKit
set_option maxRecDepth 100000

/-- a will's fields, as the walk tells them -/
structure Wv where
  topic : ByteArray
  payload : ByteArray
  qos : Int
  retain : Bool
  props : Sl
def Wv.cells (u : Wv) : List Value := [.string u.topic, .string u.payload, .int .i64 u.qos, .bool u.retain, u.props.val]
def wcs (ws : List Wv) : List Value := ws.flatMap Wv.cells
/-- a row of cells, read through a slice: s cells each -/
def Rw (w : World) (t : Sl) (s : Nat) (vs : List Value) : Prop := vs.length = t.n * s ∧ (t.n ≤ t.cap ∧ t.cap ≤ maxLen) ∧ (t.n = 0 ∨ ∃ b off, t.ao = some ⟨b, off, none⟩ ∧ ∀ j, j < vs.length → w.cell? ⟨b, off + j, none⟩ = vs[j]?)
theorem Rw.below {w w' : World} {t : Sl} {s : Nat} {vs : List Value} (h : Rw w t s vs) (hb : Below w.heap.size w w') : Rw w' t s vs := by
  obtain ⟨h1, h2, h3⟩ := h
  refine ⟨h1, h2, ?_⟩
  rcases h3 with h3 | ⟨b, off, e, hc⟩
  · exact .inl h3
  · refine .inr ⟨b, off, e, fun j hj => ?_⟩
    have := hc j hj
    rw [List.getElem?_eq_getElem hj] at this
    rw [hb.cell (p := ⟨b, off + j, none⟩) (cell_lt this), List.getElem?_eq_getElem hj]
    exact this
theorem wcs_length (ws : List Wv) : (wcs ws).length = ws.length * 5 := by
  induction ws with
  | nil => rfl
  | cons u us ih => unfold wcs at *; simp only [List.flatMap_cons, List.length_append, ih, List.length_cons, Wv.cells, List.length_nil]; omega
theorem wcs_get (ws : List Wv) : ∀ (i : Nat) (u : Wv), ws[i]? = some u → ∀ j, j < 5 → (wcs ws)[i * 5 + j]? = u.cells[j]? := by
  induction ws with
  | nil => intro i u h; simp at h
  | cons v us ih =>
    intro i u h j hj
    cases i with
    | zero =>
      simp at h
      subst h
      unfold wcs
      rw [List.flatMap_cons, Nat.zero_mul, Nat.zero_add, List.getElem?_append_left (by simp [Wv.cells]; omega)]
    | succ i =>
      simp at h
      have := ih i u h j hj
      unfold wcs at *
      rw [List.flatMap_cons, List.getElem?_append_right (by simp [Wv.cells]; omega), ← this]
      congr 1
      simp [Wv.cells]
      omega
/-- one will's cells -/
theorem Rw.will {w : World} {t : Sl} {ws : List Wv} (h : Rw w t 5 (wcs ws)) (i : Nat) (u : Wv) (hu : ws[i]? = some u) : ∃ b off, t.ao = some ⟨b, off, none⟩ ∧ w.cell? ⟨b, off + i * 5, none⟩ = some (.string u.topic) ∧ w.cell? ⟨b, off + i * 5 + 1, none⟩ = some (.string u.payload) ∧ w.cell? ⟨b, off + i * 5 + 2, none⟩ = some (.int .i64 u.qos) ∧ w.cell? ⟨b, off + i * 5 + 3, none⟩ = some (.bool u.retain) ∧ w.cell? ⟨b, off + i * 5 + 4, none⟩ = some u.props.val := by
  obtain ⟨h1, h2, h3⟩ := h
  have hi : i < ws.length := (List.getElem?_eq_some_iff.1 hu).1
  rw [wcs_length] at h1
  rcases h3 with h3 | ⟨b, off, e, hc⟩
  · omega
  · refine ⟨b, off, e, ?_⟩
    have k : ∀ j, j < 5 → w.cell? ⟨b, off + (i * 5 + j), none⟩ = u.cells[j]? := fun j hj => (hc (i * 5 + j) (by rw [wcs_length]; omega)).trans (wcs_get ws i u hu j hj)
    exact ⟨k 0 (by omega), (by have := k 1 (by omega); rw [← Nat.add_assoc] at this; exact this), (by have := k 2 (by omega); rw [← Nat.add_assoc] at this; exact this), (by have := k 3 (by omega); rw [← Nat.add_assoc] at this; exact this), (by have := k 4 (by omega); rw [← Nat.add_assoc] at this; exact this)⟩
/-- a Connect's flags -/
def cstep (f : Int) (u : Wv) : Int := bits .or .i64 f (bits .or .i64 (bits .or .i64 4 (fv u.retain 32)) (IntKind.i64.wrap (u.qos * 8)))
def cfl0 (nu np : Nat) (clean : Bool) : Int := bits .or .i64 (bits .or .i64 (fv (decide (0 < nu)) 128) (fv (decide (0 < np)) 64)) (fv clean 2)
def cfl (nu np : Nat) (clean : Bool) (ws : List Wv) : Int := ws.foldl cstep (cfl0 nu np clean)
def cok0 (nw nu np : Nat) : Bool := decide (nw ≤ 1) && decide (nu ≤ 1) && decide (np ≤ 1)
def cok (nu np : Nat) (ws : List Wv) : Bool := cok0 ws.length nu np && ws.all fun u => mq u.qos
set_option maxHeartbeats 4000000 in
theorem connectFlags_any (p : Pkv) (ws : List Wv) (w : World) (h : Rw w p.wills 5 (wcs ws)) (hu : p.user.n ≤ maxLen) (hp : p.pass.n ≤ maxLen) : Calls Tryz.prog 63 #[p.val] w fun e w' => e = .returned (.tuple #[.int .i64 (cfl p.user.n p.pass.n p.clean ws), .bool (cok p.user.n p.pass.n ws)]) ∧ Below w.heap.size w w' := by
  obtain ⟨kind, dup, qos, retain, topic, id, payload, ⟨a1, n1, c1⟩, client, clean, keep, ⟨a2, n2, c2⟩, ⟨a3, n3, c3⟩, ⟨a4, n4, c4⟩, code, session, ⟨a5, n5, c5⟩, ⟨a6, n6, c6⟩, ⟨a7, n7, c7⟩⟩ := p
  simp only at h hu hp
  dsimp only [Pkv.val, Sl.val]
  have hn : ws.length = n2 := by have := h.1; rw [wcs_length] at this; simp only at this; omega
  have hcap := h.2.1
  simp only at hcap
  unfold maxLen at hu hp hcap
  have HR := hide h
  clear h
  by_cases l1 : n2 ≤ 1
  · by_cases l2 : n3 ≤ 1
    · go_enter Tryz.func63, Tryz.ntmps63
      go_wp2_with fail
      refine wp_region_noPanic ?_
      refine wp_region_held_drew (S := (fun w' => w'.cell? ⟨w.heap.size, 12, none⟩ = some (.slice a3 n3 c3) ∧ w'.cell? ⟨w.heap.size, 13, none⟩ = some (.slice a4 n4 c4) ∧ w'.cell? ⟨w.heap.size, 9, none⟩ = some (.bool clean))) (by kernel_rfl) (by simp) (fun hHeld => ?_)
      refine wpAnyH_take (i := 0) (oi := { dst := some 22, op := Op.fieldAddr 30 (Operand.tmp 1) 12, type := 0, pos := "packet.go:133", after := #[], guard := none }) (v := ?v13) rfl (by kernel_rfl) (by kernel_rfl) (by kernel_rfl) (fun _ _ _ h => h) (Or.inl ⟨by rfl, ?hy13⟩) (by assumption) ?rest13
      case hy13 => (intro w hSw; (try dsimp only at hSw); go_simp; (try rw [if_pos (by omega)]); (try with_reducible rfl))
      simp only [Act.put, List.setIfInBounds_toArray, List.set_cons_zero, List.set_cons_succ]
      refine wpAnyH_take (i := 1) (oi := { dst := some 23, op := Op.load 26 (Operand.tmp 22), type := 26, pos := "packet.go:133", after := #[{ on := 0, ground := Ground.data }], guard := none }) (v := ?v14) rfl (by kernel_rfl) (by kernel_rfl) (by kernel_rfl) (fun _ _ _ h => h) (Or.inl ⟨by rfl, ?hy14⟩) (by assumption) ?rest14
      case hy14 => (intro w hSw; (try dsimp only at hSw); go_simp; (try rw [if_pos (by omega)]); (try with_reducible rfl))
      simp only [Act.put, List.setIfInBounds_toArray, List.set_cons_zero, List.set_cons_succ]
      refine wpAnyH_take (i := 2) (oi := { dst := some 24, op := Op.call { callee := Callee.builtin Builtin.len, args := #[Operand.tmp 23], argTypes := #[26] }, type := 3, pos := "packet.go:133", after := #[{ on := 1, ground := Ground.data }], guard := none }) (v := ?v15) rfl (by kernel_rfl) (by kernel_rfl) (by kernel_rfl) (fun _ _ _ h => h) (Or.inl ⟨by rfl, ?hy15⟩) (by assumption) ?rest15
      case hy15 => (intro w hSw; (try dsimp only at hSw); go_simp; (try rw [if_pos (by omega)]); (try with_reducible rfl))
      simp only [Act.put, List.setIfInBounds_toArray, List.set_cons_zero, List.set_cons_succ]
      refine wpAnyH_take (i := 3) (oi := { dst := some 25, op := Op.binOp BinOp.gtr 3 (Operand.tmp 24) (Operand.const (Value.int IntKind.i64 0)) 3, type := 4, pos := "packet.go:133", after := #[{ on := 2, ground := Ground.data }], guard := none }) (v := ?v16) rfl (by kernel_rfl) (by kernel_rfl) (by kernel_rfl) (fun _ _ _ h => h) (Or.inl ⟨by rfl, ?hy16⟩) (by assumption) ?rest16
      case hy16 => (intro w hSw; (try dsimp only at hSw); go_simp; (try rw [if_pos (by omega)]); (try with_reducible rfl))
      simp only [Act.put, List.setIfInBounds_toArray, List.set_cons_zero, List.set_cons_succ]
      refine wpAnyH_take (i := 5) (oi := { dst := some 27, op := Op.fieldAddr 30 (Operand.tmp 1) 13, type := 0, pos := "packet.go:133", after := #[], guard := none }) (v := ?v17) rfl (by kernel_rfl) (by kernel_rfl) (by kernel_rfl) (fun _ _ _ h => h) (Or.inl ⟨by rfl, ?hy17⟩) (by assumption) ?rest17
      case hy17 => (intro w hSw; (try dsimp only at hSw); go_simp; (try rw [if_pos (by omega)]); (try with_reducible rfl))
      simp only [Act.put, List.setIfInBounds_toArray, List.set_cons_zero, List.set_cons_succ]
      refine wpAnyH_take (i := 6) (oi := { dst := some 28, op := Op.load 26 (Operand.tmp 27), type := 26, pos := "packet.go:133", after := #[{ on := 5, ground := Ground.data }], guard := none }) (v := ?v18) rfl (by kernel_rfl) (by kernel_rfl) (by kernel_rfl) (fun _ _ _ h => h) (Or.inl ⟨by rfl, ?hy18⟩) (by assumption) ?rest18
      case hy18 => (intro w hSw; (try dsimp only at hSw); go_simp; (try rw [if_pos (by omega)]); (try with_reducible rfl))
      simp only [Act.put, List.setIfInBounds_toArray, List.set_cons_zero, List.set_cons_succ]
      refine wpAnyH_take (i := 7) (oi := { dst := some 29, op := Op.call { callee := Callee.builtin Builtin.len, args := #[Operand.tmp 28], argTypes := #[26] }, type := 3, pos := "packet.go:133", after := #[{ on := 6, ground := Ground.data }], guard := none }) (v := ?v19) rfl (by kernel_rfl) (by kernel_rfl) (by kernel_rfl) (fun _ _ _ h => h) (Or.inl ⟨by rfl, ?hy19⟩) (by assumption) ?rest19
      case hy19 => (intro w hSw; (try dsimp only at hSw); go_simp; (try rw [if_pos (by omega)]); (try with_reducible rfl))
      simp only [Act.put, List.setIfInBounds_toArray, List.set_cons_zero, List.set_cons_succ]
      refine wpAnyH_take (i := 8) (oi := { dst := some 30, op := Op.binOp BinOp.gtr 3 (Operand.tmp 29) (Operand.const (Value.int IntKind.i64 0)) 3, type := 4, pos := "packet.go:133", after := #[{ on := 7, ground := Ground.data }], guard := none }) (v := ?v20) rfl (by kernel_rfl) (by kernel_rfl) (by kernel_rfl) (fun _ _ _ h => h) (Or.inl ⟨by rfl, ?hy20⟩) (by assumption) ?rest20
      case hy20 => (intro w hSw; (try dsimp only at hSw); go_simp; (try rw [if_pos (by omega)]); (try with_reducible rfl))
      simp only [Act.put, List.setIfInBounds_toArray, List.set_cons_zero, List.set_cons_succ]
      refine wpAnyH_take (i := 11) (oi := { dst := some 33, op := Op.fieldAddr 30 (Operand.tmp 1) 9, type := 0, pos := "packet.go:133", after := #[], guard := none }) (v := ?v21) rfl (by kernel_rfl) (by kernel_rfl) (by kernel_rfl) (fun _ _ _ h => h) (Or.inl ⟨by rfl, ?hy21⟩) (by assumption) ?rest21
      case hy21 => (intro w hSw; (try dsimp only at hSw); go_simp; (try rw [if_pos (by omega)]); (try with_reducible rfl))
      simp only [Act.put, List.setIfInBounds_toArray, List.set_cons_zero, List.set_cons_succ]
      refine wpAnyH_take (i := 12) (oi := { dst := some 34, op := Op.load 4 (Operand.tmp 33), type := 4, pos := "packet.go:133", after := #[{ on := 11, ground := Ground.data }], guard := none }) (v := ?v22) rfl (by kernel_rfl) (by kernel_rfl) (by kernel_rfl) (fun _ _ _ h => h) (Or.inl ⟨by rfl, ?hy22⟩) (by assumption) ?rest22
      case hy22 => (intro w hSw; (try dsimp only at hSw); go_simp; (try rw [if_pos (by omega)]); (try with_reducible rfl))
      simp only [Act.put, List.setIfInBounds_toArray, List.set_cons_zero, List.set_cons_succ]
      refine wpAnyH_ready (rs := [4]) (by kernel_rfl) (by simp) ?_
      refine AllReadyH.cons (o := { dst := some 26, op := Op.call { callee := Callee.value (Operand.func 31), args := #[Operand.tmp 25, Operand.const (Value.int IntKind.i64 128)], argTypes := #[4, 3] }, type := 3, pos := "packet.go:133", after := #[{ on := 3, ground := Ground.data }], guard := none }) rfl (fun K hK => ?_) AllReadyH.nil
      go_simp
      refine (flag_is _ _ _).mono ?_
      rintro e w2 ⟨rfl, hw2⟩
      obtain rfl := hw2.symm
      clear hw2
      refine hK.out _ _ (by simp) (fun hHeld => ?_)
      clear hK K
      refine wpAnyH_ready (rs := [9]) (by kernel_rfl) (by simp) ?_
      refine AllReadyH.cons (o := { dst := some 31, op := Op.call { callee := Callee.value (Operand.func 31), args := #[Operand.tmp 30, Operand.const (Value.int IntKind.i64 64)], argTypes := #[4, 3] }, type := 3, pos := "packet.go:133", after := #[{ on := 8, ground := Ground.data }, { on := 4, ground := Ground.chain }], guard := none }) rfl (fun K hK => ?_) AllReadyH.nil
      go_simp
      refine (flag_is _ _ _).mono ?_
      rintro e w2 ⟨rfl, hw2⟩
      obtain rfl := hw2.symm
      clear hw2
      refine hK.out _ _ (by simp) (fun hHeld => ?_)
      clear hK K
      refine wpAnyH_take (i := 10) (oi := { dst := some 32, op := Op.binOp BinOp.or 3 (Operand.tmp 26) (Operand.tmp 31) 3, type := 3, pos := "packet.go:133", after := #[{ on := 4, ground := Ground.data }, { on := 9, ground := Ground.data }], guard := none }) (v := ?v23) rfl (by kernel_rfl) (by kernel_rfl) (by kernel_rfl) (fun _ _ _ h => h) (Or.inl ⟨by rfl, ?hy23⟩) (by assumption) ?rest23
      case hy23 => (intro w hSw; (try dsimp only at hSw); go_simp; (try rw [if_pos (by omega)]); (try with_reducible rfl))
      simp only [Act.put, List.setIfInBounds_toArray, List.set_cons_zero, List.set_cons_succ]
      refine wpAnyH_ready (rs := [13]) (by kernel_rfl) (by simp) ?_
      refine AllReadyH.cons (o := { dst := some 35, op := Op.call { callee := Callee.value (Operand.func 31), args := #[Operand.tmp 34, Operand.const (Value.int IntKind.i64 2)], argTypes := #[4, 3] }, type := 3, pos := "packet.go:133", after := #[{ on := 12, ground := Ground.data }, { on := 9, ground := Ground.chain }], guard := none }) rfl (fun K hK => ?_) AllReadyH.nil
      go_simp
      refine (flag_is _ _ _).mono ?_
      rintro e w2 ⟨rfl, hw2⟩
      obtain rfl := hw2.symm
      clear hw2
      refine hK.out _ _ (by simp) (fun hHeld => ?_)
      clear hK K
      refine wpAnyH_take (i := 14) (oi := { dst := some 36, op := Op.binOp BinOp.or 3 (Operand.tmp 32) (Operand.tmp 35) 3, type := 3, pos := "packet.go:133", after := #[{ on := 10, ground := Ground.data }, { on := 13, ground := Ground.data }], guard := none }) (v := ?v24) rfl (by kernel_rfl) (by kernel_rfl) (by kernel_rfl) (fun _ _ _ h => h) (Or.inl ⟨by rfl, ?hy24⟩) (by assumption) ?rest24
      case hy24 => (intro w hSw; (try dsimp only at hSw); go_simp; (try rw [if_pos (by omega)]); (try with_reducible rfl))
      simp only [Act.put, List.setIfInBounds_toArray, List.set_cons_zero, List.set_cons_succ]
      refine wpAnyH_ready (rs := [15]) (by kernel_rfl) (by simp) ?_
      refine AllReadyH.cons (o := { dst := some 2, op := Op.assign (Operand.tmp 36), type := 3, pos := "packet.go:133", after := #[{ on := 14, ground := Ground.data }, { on := 13, ground := Ground.chain }, { on := 0, ground := Ground.phase }, { on := 1, ground := Ground.phase }, { on := 2, ground := Ground.phase }, { on := 3, ground := Ground.phase }, { on := 4, ground := Ground.phase }, { on := 5, ground := Ground.phase }, { on := 6, ground := Ground.phase }, { on := 7, ground := Ground.phase }, { on := 8, ground := Ground.phase }, { on := 9, ground := Ground.phase }, { on := 10, ground := Ground.phase }, { on := 11, ground := Ground.phase }, { on := 12, ground := Ground.phase }, { on := 13, ground := Ground.phase }, { on := 14, ground := Ground.phase }], guard := none }) rfl (fun K hK => ?_) AllReadyH.nil
      go_simp
      refine hK.out _ _ (by simp) (fun hHeld => ?_)
      clear hK K
      refine wpAnyH_done (by kernel_rfl) ?_ _
      refine NoPanic.normal ?_
      go_wp2
      go_loopw [2, 3, 40] (fun f0 o0 i0 wr => ∃ (k : Nat) (bb : Bool) (F : Int), k ≤ n2 ∧ i0 = .int .i64 k ∧ f0 = .int .i64 F ∧ o0 = .bool bb ∧ Hid (F = (ws.take k).foldl cstep (cfl0 n3 n4 clean)) ∧ Hid (bb = (cok0 n2 n3 n4 && (ws.take k).all fun u => mq u.qos)) ∧ Below w.heap.size w wr) (fun _ _ i0 _ => n2 - (intOf i0).toNat)
      case atStart => exact ⟨0, _, _, Nat.zero_le _, rfl, rfl, rfl, rfl, by show _ = _; simp [cok0, l1, l2]; omega, by go_grown⟩
      case round =>
        obtain ⟨k, bb, F, hk, rfl, rfl, rfl, HF, HO, hbel⟩ := hrel
        by_cases hkn : k = n2
        · subst hkn
          have e1 : ws.take k = ws := List.take_of_length_le (by omega)
          have HB := hide hbel
          clear hbel
          go_wp2
          go_returns
          rw [e1] at HF HO
          exact ⟨by rw [unhide HF, unhide HO, ← hn]; rfl, unhide HB⟩
        · have hlt : k < ws.length := by omega
          obtain ⟨u, hu⟩ : ∃ u, ws[k]? = some u := ⟨_, List.getElem?_eq_getElem hlt⟩
          have e1 : ws.take (k + 1) = ws.take k ++ [u] := by rw [List.take_add_one, hu]; rfl
          obtain ⟨b, off, ha, t0, t1, t2, t3, t4⟩ := ((unhide HR).below (hbel)).will k u hu
          simp only at ha
          subst ha
          have hF : Hid (cstep F u = (ws.take (k + 1)).foldl cstep (cfl0 n3 n4 clean)) := by show _ = _; rw [e1, List.foldl_append, unhide HF]; rfl
          have hO : (cok0 n2 n3 n4 && (ws.take (k + 1)).all fun u => mq u.qos) = (bb && mq u.qos) := by rw [e1, List.all_append, unhide HO]; simp [Bool.and_assoc]
          have HO2 := hide hO
          clear hO
          have HB2 : Hid (Below w.heap.size w (wr.alloc (.cells #[.string u.topic, .string u.payload, .int .i64 u.qos, .bool u.retain, u.props.val] 74)).drew) := (hbel.alloc hbel.size _).drew
          cases bb
          · go_wp2_with fail
            refine wp_region_noPanic ?_
            refine wp_region_held_drew (S := (fun w' => w'.cell? ⟨wr.heap.size, 3, none⟩ = some (.bool u.retain) ∧ w'.cell? ⟨wr.heap.size, 2, none⟩ = some (.int .i64 u.qos))) (by kernel_rfl) (by simp) (fun hHeld => ?_)
            refine wpAnyH_take (i := 0) (oi := { dst := some 50, op := Op.move (Operand.tmp 2), type := 3, pos := "packet.go:136", after := #[], guard := none }) (v := ?v25) rfl (by kernel_rfl) (by kernel_rfl) (by kernel_rfl) (fun _ _ _ h => h) (Or.inl ⟨by rfl, ?hy25⟩) (by assumption) ?rest25
            case hy25 => (intro w hSw; (try dsimp only at hSw); go_simp; (try rw [if_pos (by omega)]); (try with_reducible rfl))
            simp only [Act.put, List.setIfInBounds_toArray, List.set_cons_zero, List.set_cons_succ]
            refine wpAnyH_take (i := 1) (oi := { dst := some 51, op := Op.fieldAddr 74 (Operand.tmp 5) 3, type := 0, pos := "packet.go:136", after := #[], guard := none }) (v := ?v26) rfl (by kernel_rfl) (by kernel_rfl) (by kernel_rfl) (fun _ _ _ h => h) (Or.inl ⟨by rfl, ?hy26⟩) (by assumption) ?rest26
            case hy26 => (intro w hSw; (try dsimp only at hSw); go_simp; (try rw [if_pos (by omega)]); (try with_reducible rfl))
            simp only [Act.put, List.setIfInBounds_toArray, List.set_cons_zero, List.set_cons_succ]
            refine wpAnyH_take (i := 2) (oi := { dst := some 52, op := Op.load 4 (Operand.tmp 51), type := 4, pos := "packet.go:136", after := #[{ on := 1, ground := Ground.data }], guard := none }) (v := ?v27) rfl (by kernel_rfl) (by kernel_rfl) (by kernel_rfl) (fun _ _ _ h => h) (Or.inl ⟨by rfl, ?hy27⟩) (by assumption) ?rest27
            case hy27 => (intro w hSw; (try dsimp only at hSw); go_simp; (try rw [if_pos (by omega)]); (try with_reducible rfl))
            simp only [Act.put, List.setIfInBounds_toArray, List.set_cons_zero, List.set_cons_succ]
            refine wpAnyH_take (i := 5) (oi := { dst := some 55, op := Op.fieldAddr 74 (Operand.tmp 5) 2, type := 0, pos := "packet.go:136", after := #[], guard := none }) (v := ?v28) rfl (by kernel_rfl) (by kernel_rfl) (by kernel_rfl) (fun _ _ _ h => h) (Or.inl ⟨by rfl, ?hy28⟩) (by assumption) ?rest28
            case hy28 => (intro w hSw; (try dsimp only at hSw); go_simp; (try rw [if_pos (by omega)]); (try with_reducible rfl))
            simp only [Act.put, List.setIfInBounds_toArray, List.set_cons_zero, List.set_cons_succ]
            refine wpAnyH_take (i := 6) (oi := { dst := some 56, op := Op.load 3 (Operand.tmp 55), type := 3, pos := "packet.go:136", after := #[{ on := 5, ground := Ground.data }], guard := none }) (v := ?v29) rfl (by kernel_rfl) (by kernel_rfl) (by kernel_rfl) (fun _ _ _ h => h) (Or.inl ⟨by rfl, ?hy29⟩) (by assumption) ?rest29
            case hy29 => (intro w hSw; (try dsimp only at hSw); go_simp; (try rw [if_pos (by omega)]); (try with_reducible rfl))
            simp only [Act.put, List.setIfInBounds_toArray, List.set_cons_zero, List.set_cons_succ]
            refine wpAnyH_take (i := 7) (oi := { dst := some 57, op := Op.binOp BinOp.shl 3 (Operand.tmp 56) (Operand.const (Value.int IntKind.u64 3)) 35, type := 3, pos := "packet.go:136", after := #[{ on := 6, ground := Ground.data }], guard := none }) (v := ?v30) rfl (by kernel_rfl) (by kernel_rfl) (by kernel_rfl) (fun _ _ _ h => h) (Or.inl ⟨by rfl, ?hy30⟩) (by assumption) ?rest30
            case hy30 => (intro w hSw; (try dsimp only at hSw); go_simp; (try rw [if_pos (by omega)]); (try with_reducible rfl))
            simp only [Act.put, List.setIfInBounds_toArray, List.set_cons_zero, List.set_cons_succ]
            refine wpAnyH_ready (rs := [3]) (by kernel_rfl) (by simp) ?_
            refine AllReadyH.cons (o := { dst := some 53, op := Op.call { callee := Callee.value (Operand.func 31), args := #[Operand.tmp 52, Operand.const (Value.int IntKind.i64 32)], argTypes := #[4, 3] }, type := 3, pos := "packet.go:136", after := #[{ on := 2, ground := Ground.data }], guard := none }) rfl (fun K hK => ?_) AllReadyH.nil
            go_simp
            refine (flag_is _ _ _).mono ?_
            rintro e w2 ⟨rfl, hw2⟩
            obtain rfl := hw2.symm
            clear hw2
            refine hK.out _ _ (by simp) (fun hHeld => ?_)
            clear hK K
            refine wpAnyH_take (i := 4) (oi := { dst := some 54, op := Op.binOp BinOp.or 3 (Operand.const (Value.int IntKind.i64 4)) (Operand.tmp 53) 3, type := 3, pos := "packet.go:136", after := #[{ on := 3, ground := Ground.data }], guard := none }) (v := ?v31) rfl (by kernel_rfl) (by kernel_rfl) (by kernel_rfl) (fun _ _ _ h => h) (Or.inl ⟨by rfl, ?hy31⟩) (by assumption) ?rest31
            case hy31 => (intro w hSw; (try dsimp only at hSw); go_simp; (try rw [if_pos (by omega)]); (try with_reducible rfl))
            simp only [Act.put, List.setIfInBounds_toArray, List.set_cons_zero, List.set_cons_succ]
            refine wpAnyH_take (i := 8) (oi := { dst := some 58, op := Op.binOp BinOp.or 3 (Operand.tmp 54) (Operand.tmp 57) 3, type := 3, pos := "packet.go:136", after := #[{ on := 4, ground := Ground.data }, { on := 7, ground := Ground.data }], guard := none }) (v := ?v32) rfl (by kernel_rfl) (by kernel_rfl) (by kernel_rfl) (fun _ _ _ h => h) (Or.inl ⟨by rfl, ?hy32⟩) (by assumption) ?rest32
            case hy32 => (intro w hSw; (try dsimp only at hSw); go_simp; (try rw [if_pos (by omega)]); (try with_reducible rfl))
            simp only [Act.put, List.setIfInBounds_toArray, List.set_cons_zero, List.set_cons_succ]
            refine wpAnyH_take (i := 9) (oi := { dst := some 59, op := Op.binOp BinOp.or 3 (Operand.tmp 50) (Operand.tmp 58) 3, type := 3, pos := "packet.go:136", after := #[{ on := 0, ground := Ground.data }, { on := 8, ground := Ground.data }], guard := none }) (v := ?v33) rfl (by kernel_rfl) (by kernel_rfl) (by kernel_rfl) (fun _ _ _ h => h) (Or.inl ⟨by rfl, ?hy33⟩) (by assumption) ?rest33
            case hy33 => (intro w hSw; (try dsimp only at hSw); go_simp; (try rw [if_pos (by omega)]); (try with_reducible rfl))
            simp only [Act.put, List.setIfInBounds_toArray, List.set_cons_zero, List.set_cons_succ]
            refine wpAnyH_ready (rs := [10]) (by kernel_rfl) (by simp) ?_
            refine AllReadyH.cons (o := { dst := some 2, op := Op.assign (Operand.tmp 59), type := 3, pos := "packet.go:136", after := #[{ on := 9, ground := Ground.data }, { on := 3, ground := Ground.chain }, { on := 0, ground := Ground.phase }, { on := 1, ground := Ground.phase }, { on := 2, ground := Ground.phase }, { on := 3, ground := Ground.phase }, { on := 4, ground := Ground.phase }, { on := 5, ground := Ground.phase }, { on := 6, ground := Ground.phase }, { on := 7, ground := Ground.phase }, { on := 8, ground := Ground.phase }, { on := 9, ground := Ground.phase }], guard := none }) rfl (fun K hK => ?_) AllReadyH.nil
            go_simp
            refine hK.out _ _ (by simp) (fun hHeld => ?_)
            clear hK K
            refine wpAnyH_done (by kernel_rfl) ?_ _
            refine NoPanic.normal ?_
            go_wp2
            go_roundw
            case rel => exact ⟨k + 1, false, _, by omega, by go_num, rfl, rfl, hF, by show _ = _; rw [unhide HO2]; rfl, unhide HB2⟩
            case measure => simp [intOf]; omega
          · go_wp2_with fail
            refine (mayQoS_is u.qos _ rfl _).mono ?_
            rintro e w1 ⟨rfl, hw1⟩
            obtain rfl := hw1.symm
            clear hw1
            go_wp2_with fail
            refine wp_region_noPanic ?_
            refine wp_region_held_drew (S := (fun w' => w'.cell? ⟨wr.heap.size, 3, none⟩ = some (.bool u.retain) ∧ w'.cell? ⟨wr.heap.size, 2, none⟩ = some (.int .i64 u.qos))) (by kernel_rfl) (by simp) (fun hHeld => ?_)
            refine wpAnyH_take (i := 0) (oi := { dst := some 50, op := Op.move (Operand.tmp 2), type := 3, pos := "packet.go:136", after := #[], guard := none }) (v := ?v34) rfl (by kernel_rfl) (by kernel_rfl) (by kernel_rfl) (fun _ _ _ h => h) (Or.inl ⟨by rfl, ?hy34⟩) (by assumption) ?rest34
            case hy34 => (intro w hSw; (try dsimp only at hSw); go_simp; (try rw [if_pos (by omega)]); (try with_reducible rfl))
            simp only [Act.put, List.setIfInBounds_toArray, List.set_cons_zero, List.set_cons_succ]
            refine wpAnyH_take (i := 1) (oi := { dst := some 51, op := Op.fieldAddr 74 (Operand.tmp 5) 3, type := 0, pos := "packet.go:136", after := #[], guard := none }) (v := ?v35) rfl (by kernel_rfl) (by kernel_rfl) (by kernel_rfl) (fun _ _ _ h => h) (Or.inl ⟨by rfl, ?hy35⟩) (by assumption) ?rest35
            case hy35 => (intro w hSw; (try dsimp only at hSw); go_simp; (try rw [if_pos (by omega)]); (try with_reducible rfl))
            simp only [Act.put, List.setIfInBounds_toArray, List.set_cons_zero, List.set_cons_succ]
            refine wpAnyH_take (i := 2) (oi := { dst := some 52, op := Op.load 4 (Operand.tmp 51), type := 4, pos := "packet.go:136", after := #[{ on := 1, ground := Ground.data }], guard := none }) (v := ?v36) rfl (by kernel_rfl) (by kernel_rfl) (by kernel_rfl) (fun _ _ _ h => h) (Or.inl ⟨by rfl, ?hy36⟩) (by assumption) ?rest36
            case hy36 => (intro w hSw; (try dsimp only at hSw); go_simp; (try rw [if_pos (by omega)]); (try with_reducible rfl))
            simp only [Act.put, List.setIfInBounds_toArray, List.set_cons_zero, List.set_cons_succ]
            refine wpAnyH_take (i := 5) (oi := { dst := some 55, op := Op.fieldAddr 74 (Operand.tmp 5) 2, type := 0, pos := "packet.go:136", after := #[], guard := none }) (v := ?v37) rfl (by kernel_rfl) (by kernel_rfl) (by kernel_rfl) (fun _ _ _ h => h) (Or.inl ⟨by rfl, ?hy37⟩) (by assumption) ?rest37
            case hy37 => (intro w hSw; (try dsimp only at hSw); go_simp; (try rw [if_pos (by omega)]); (try with_reducible rfl))
            simp only [Act.put, List.setIfInBounds_toArray, List.set_cons_zero, List.set_cons_succ]
            refine wpAnyH_take (i := 6) (oi := { dst := some 56, op := Op.load 3 (Operand.tmp 55), type := 3, pos := "packet.go:136", after := #[{ on := 5, ground := Ground.data }], guard := none }) (v := ?v38) rfl (by kernel_rfl) (by kernel_rfl) (by kernel_rfl) (fun _ _ _ h => h) (Or.inl ⟨by rfl, ?hy38⟩) (by assumption) ?rest38
            case hy38 => (intro w hSw; (try dsimp only at hSw); go_simp; (try rw [if_pos (by omega)]); (try with_reducible rfl))
            simp only [Act.put, List.setIfInBounds_toArray, List.set_cons_zero, List.set_cons_succ]
            refine wpAnyH_take (i := 7) (oi := { dst := some 57, op := Op.binOp BinOp.shl 3 (Operand.tmp 56) (Operand.const (Value.int IntKind.u64 3)) 35, type := 3, pos := "packet.go:136", after := #[{ on := 6, ground := Ground.data }], guard := none }) (v := ?v39) rfl (by kernel_rfl) (by kernel_rfl) (by kernel_rfl) (fun _ _ _ h => h) (Or.inl ⟨by rfl, ?hy39⟩) (by assumption) ?rest39
            case hy39 => (intro w hSw; (try dsimp only at hSw); go_simp; (try rw [if_pos (by omega)]); (try with_reducible rfl))
            simp only [Act.put, List.setIfInBounds_toArray, List.set_cons_zero, List.set_cons_succ]
            refine wpAnyH_ready (rs := [3]) (by kernel_rfl) (by simp) ?_
            refine AllReadyH.cons (o := { dst := some 53, op := Op.call { callee := Callee.value (Operand.func 31), args := #[Operand.tmp 52, Operand.const (Value.int IntKind.i64 32)], argTypes := #[4, 3] }, type := 3, pos := "packet.go:136", after := #[{ on := 2, ground := Ground.data }], guard := none }) rfl (fun K hK => ?_) AllReadyH.nil
            go_simp
            refine (flag_is _ _ _).mono ?_
            rintro e w2 ⟨rfl, hw2⟩
            obtain rfl := hw2.symm
            clear hw2
            refine hK.out _ _ (by simp) (fun hHeld => ?_)
            clear hK K
            refine wpAnyH_take (i := 4) (oi := { dst := some 54, op := Op.binOp BinOp.or 3 (Operand.const (Value.int IntKind.i64 4)) (Operand.tmp 53) 3, type := 3, pos := "packet.go:136", after := #[{ on := 3, ground := Ground.data }], guard := none }) (v := ?v40) rfl (by kernel_rfl) (by kernel_rfl) (by kernel_rfl) (fun _ _ _ h => h) (Or.inl ⟨by rfl, ?hy40⟩) (by assumption) ?rest40
            case hy40 => (intro w hSw; (try dsimp only at hSw); go_simp; (try rw [if_pos (by omega)]); (try with_reducible rfl))
            simp only [Act.put, List.setIfInBounds_toArray, List.set_cons_zero, List.set_cons_succ]
            refine wpAnyH_take (i := 8) (oi := { dst := some 58, op := Op.binOp BinOp.or 3 (Operand.tmp 54) (Operand.tmp 57) 3, type := 3, pos := "packet.go:136", after := #[{ on := 4, ground := Ground.data }, { on := 7, ground := Ground.data }], guard := none }) (v := ?v41) rfl (by kernel_rfl) (by kernel_rfl) (by kernel_rfl) (fun _ _ _ h => h) (Or.inl ⟨by rfl, ?hy41⟩) (by assumption) ?rest41
            case hy41 => (intro w hSw; (try dsimp only at hSw); go_simp; (try rw [if_pos (by omega)]); (try with_reducible rfl))
            simp only [Act.put, List.setIfInBounds_toArray, List.set_cons_zero, List.set_cons_succ]
            refine wpAnyH_take (i := 9) (oi := { dst := some 59, op := Op.binOp BinOp.or 3 (Operand.tmp 50) (Operand.tmp 58) 3, type := 3, pos := "packet.go:136", after := #[{ on := 0, ground := Ground.data }, { on := 8, ground := Ground.data }], guard := none }) (v := ?v42) rfl (by kernel_rfl) (by kernel_rfl) (by kernel_rfl) (fun _ _ _ h => h) (Or.inl ⟨by rfl, ?hy42⟩) (by assumption) ?rest42
            case hy42 => (intro w hSw; (try dsimp only at hSw); go_simp; (try rw [if_pos (by omega)]); (try with_reducible rfl))
            simp only [Act.put, List.setIfInBounds_toArray, List.set_cons_zero, List.set_cons_succ]
            refine wpAnyH_ready (rs := [10]) (by kernel_rfl) (by simp) ?_
            refine AllReadyH.cons (o := { dst := some 2, op := Op.assign (Operand.tmp 59), type := 3, pos := "packet.go:136", after := #[{ on := 9, ground := Ground.data }, { on := 3, ground := Ground.chain }, { on := 0, ground := Ground.phase }, { on := 1, ground := Ground.phase }, { on := 2, ground := Ground.phase }, { on := 3, ground := Ground.phase }, { on := 4, ground := Ground.phase }, { on := 5, ground := Ground.phase }, { on := 6, ground := Ground.phase }, { on := 7, ground := Ground.phase }, { on := 8, ground := Ground.phase }, { on := 9, ground := Ground.phase }], guard := none }) rfl (fun K hK => ?_) AllReadyH.nil
            go_simp
            refine hK.out _ _ (by simp) (fun hHeld => ?_)
            clear hK K
            refine wpAnyH_done (by kernel_rfl) ?_ _
            refine NoPanic.normal ?_
            go_wp2
            go_roundw
            case rel => exact ⟨k + 1, mq u.qos, _, by omega, by go_num, rfl, rfl, hF, by show _ = _; rw [unhide HO2]; rfl, unhide HB2⟩
            case measure => simp [intOf]; omega
    · go_enter Tryz.func63, Tryz.ntmps63
      go_wp2_with fail
      refine wp_region_noPanic ?_
      refine wp_region_held_drew (S := (fun w' => w'.cell? ⟨w.heap.size, 12, none⟩ = some (.slice a3 n3 c3) ∧ w'.cell? ⟨w.heap.size, 13, none⟩ = some (.slice a4 n4 c4) ∧ w'.cell? ⟨w.heap.size, 9, none⟩ = some (.bool clean))) (by kernel_rfl) (by simp) (fun hHeld => ?_)
      refine wpAnyH_take (i := 0) (oi := { dst := some 22, op := Op.fieldAddr 30 (Operand.tmp 1) 12, type := 0, pos := "packet.go:133", after := #[], guard := none }) (v := ?v43) rfl (by kernel_rfl) (by kernel_rfl) (by kernel_rfl) (fun _ _ _ h => h) (Or.inl ⟨by rfl, ?hy43⟩) (by assumption) ?rest43
      case hy43 => (intro w hSw; (try dsimp only at hSw); go_simp; (try rw [if_pos (by omega)]); (try with_reducible rfl))
      simp only [Act.put, List.setIfInBounds_toArray, List.set_cons_zero, List.set_cons_succ]
      refine wpAnyH_take (i := 1) (oi := { dst := some 23, op := Op.load 26 (Operand.tmp 22), type := 26, pos := "packet.go:133", after := #[{ on := 0, ground := Ground.data }], guard := none }) (v := ?v44) rfl (by kernel_rfl) (by kernel_rfl) (by kernel_rfl) (fun _ _ _ h => h) (Or.inl ⟨by rfl, ?hy44⟩) (by assumption) ?rest44
      case hy44 => (intro w hSw; (try dsimp only at hSw); go_simp; (try rw [if_pos (by omega)]); (try with_reducible rfl))
      simp only [Act.put, List.setIfInBounds_toArray, List.set_cons_zero, List.set_cons_succ]
      refine wpAnyH_take (i := 2) (oi := { dst := some 24, op := Op.call { callee := Callee.builtin Builtin.len, args := #[Operand.tmp 23], argTypes := #[26] }, type := 3, pos := "packet.go:133", after := #[{ on := 1, ground := Ground.data }], guard := none }) (v := ?v45) rfl (by kernel_rfl) (by kernel_rfl) (by kernel_rfl) (fun _ _ _ h => h) (Or.inl ⟨by rfl, ?hy45⟩) (by assumption) ?rest45
      case hy45 => (intro w hSw; (try dsimp only at hSw); go_simp; (try rw [if_pos (by omega)]); (try with_reducible rfl))
      simp only [Act.put, List.setIfInBounds_toArray, List.set_cons_zero, List.set_cons_succ]
      refine wpAnyH_take (i := 3) (oi := { dst := some 25, op := Op.binOp BinOp.gtr 3 (Operand.tmp 24) (Operand.const (Value.int IntKind.i64 0)) 3, type := 4, pos := "packet.go:133", after := #[{ on := 2, ground := Ground.data }], guard := none }) (v := ?v46) rfl (by kernel_rfl) (by kernel_rfl) (by kernel_rfl) (fun _ _ _ h => h) (Or.inl ⟨by rfl, ?hy46⟩) (by assumption) ?rest46
      case hy46 => (intro w hSw; (try dsimp only at hSw); go_simp; (try rw [if_pos (by omega)]); (try with_reducible rfl))
      simp only [Act.put, List.setIfInBounds_toArray, List.set_cons_zero, List.set_cons_succ]
      refine wpAnyH_take (i := 5) (oi := { dst := some 27, op := Op.fieldAddr 30 (Operand.tmp 1) 13, type := 0, pos := "packet.go:133", after := #[], guard := none }) (v := ?v47) rfl (by kernel_rfl) (by kernel_rfl) (by kernel_rfl) (fun _ _ _ h => h) (Or.inl ⟨by rfl, ?hy47⟩) (by assumption) ?rest47
      case hy47 => (intro w hSw; (try dsimp only at hSw); go_simp; (try rw [if_pos (by omega)]); (try with_reducible rfl))
      simp only [Act.put, List.setIfInBounds_toArray, List.set_cons_zero, List.set_cons_succ]
      refine wpAnyH_take (i := 6) (oi := { dst := some 28, op := Op.load 26 (Operand.tmp 27), type := 26, pos := "packet.go:133", after := #[{ on := 5, ground := Ground.data }], guard := none }) (v := ?v48) rfl (by kernel_rfl) (by kernel_rfl) (by kernel_rfl) (fun _ _ _ h => h) (Or.inl ⟨by rfl, ?hy48⟩) (by assumption) ?rest48
      case hy48 => (intro w hSw; (try dsimp only at hSw); go_simp; (try rw [if_pos (by omega)]); (try with_reducible rfl))
      simp only [Act.put, List.setIfInBounds_toArray, List.set_cons_zero, List.set_cons_succ]
      refine wpAnyH_take (i := 7) (oi := { dst := some 29, op := Op.call { callee := Callee.builtin Builtin.len, args := #[Operand.tmp 28], argTypes := #[26] }, type := 3, pos := "packet.go:133", after := #[{ on := 6, ground := Ground.data }], guard := none }) (v := ?v49) rfl (by kernel_rfl) (by kernel_rfl) (by kernel_rfl) (fun _ _ _ h => h) (Or.inl ⟨by rfl, ?hy49⟩) (by assumption) ?rest49
      case hy49 => (intro w hSw; (try dsimp only at hSw); go_simp; (try rw [if_pos (by omega)]); (try with_reducible rfl))
      simp only [Act.put, List.setIfInBounds_toArray, List.set_cons_zero, List.set_cons_succ]
      refine wpAnyH_take (i := 8) (oi := { dst := some 30, op := Op.binOp BinOp.gtr 3 (Operand.tmp 29) (Operand.const (Value.int IntKind.i64 0)) 3, type := 4, pos := "packet.go:133", after := #[{ on := 7, ground := Ground.data }], guard := none }) (v := ?v50) rfl (by kernel_rfl) (by kernel_rfl) (by kernel_rfl) (fun _ _ _ h => h) (Or.inl ⟨by rfl, ?hy50⟩) (by assumption) ?rest50
      case hy50 => (intro w hSw; (try dsimp only at hSw); go_simp; (try rw [if_pos (by omega)]); (try with_reducible rfl))
      simp only [Act.put, List.setIfInBounds_toArray, List.set_cons_zero, List.set_cons_succ]
      refine wpAnyH_take (i := 11) (oi := { dst := some 33, op := Op.fieldAddr 30 (Operand.tmp 1) 9, type := 0, pos := "packet.go:133", after := #[], guard := none }) (v := ?v51) rfl (by kernel_rfl) (by kernel_rfl) (by kernel_rfl) (fun _ _ _ h => h) (Or.inl ⟨by rfl, ?hy51⟩) (by assumption) ?rest51
      case hy51 => (intro w hSw; (try dsimp only at hSw); go_simp; (try rw [if_pos (by omega)]); (try with_reducible rfl))
      simp only [Act.put, List.setIfInBounds_toArray, List.set_cons_zero, List.set_cons_succ]
      refine wpAnyH_take (i := 12) (oi := { dst := some 34, op := Op.load 4 (Operand.tmp 33), type := 4, pos := "packet.go:133", after := #[{ on := 11, ground := Ground.data }], guard := none }) (v := ?v52) rfl (by kernel_rfl) (by kernel_rfl) (by kernel_rfl) (fun _ _ _ h => h) (Or.inl ⟨by rfl, ?hy52⟩) (by assumption) ?rest52
      case hy52 => (intro w hSw; (try dsimp only at hSw); go_simp; (try rw [if_pos (by omega)]); (try with_reducible rfl))
      simp only [Act.put, List.setIfInBounds_toArray, List.set_cons_zero, List.set_cons_succ]
      refine wpAnyH_ready (rs := [4]) (by kernel_rfl) (by simp) ?_
      refine AllReadyH.cons (o := { dst := some 26, op := Op.call { callee := Callee.value (Operand.func 31), args := #[Operand.tmp 25, Operand.const (Value.int IntKind.i64 128)], argTypes := #[4, 3] }, type := 3, pos := "packet.go:133", after := #[{ on := 3, ground := Ground.data }], guard := none }) rfl (fun K hK => ?_) AllReadyH.nil
      go_simp
      refine (flag_is _ _ _).mono ?_
      rintro e w2 ⟨rfl, hw2⟩
      obtain rfl := hw2.symm
      clear hw2
      refine hK.out _ _ (by simp) (fun hHeld => ?_)
      clear hK K
      refine wpAnyH_ready (rs := [9]) (by kernel_rfl) (by simp) ?_
      refine AllReadyH.cons (o := { dst := some 31, op := Op.call { callee := Callee.value (Operand.func 31), args := #[Operand.tmp 30, Operand.const (Value.int IntKind.i64 64)], argTypes := #[4, 3] }, type := 3, pos := "packet.go:133", after := #[{ on := 8, ground := Ground.data }, { on := 4, ground := Ground.chain }], guard := none }) rfl (fun K hK => ?_) AllReadyH.nil
      go_simp
      refine (flag_is _ _ _).mono ?_
      rintro e w2 ⟨rfl, hw2⟩
      obtain rfl := hw2.symm
      clear hw2
      refine hK.out _ _ (by simp) (fun hHeld => ?_)
      clear hK K
      refine wpAnyH_take (i := 10) (oi := { dst := some 32, op := Op.binOp BinOp.or 3 (Operand.tmp 26) (Operand.tmp 31) 3, type := 3, pos := "packet.go:133", after := #[{ on := 4, ground := Ground.data }, { on := 9, ground := Ground.data }], guard := none }) (v := ?v53) rfl (by kernel_rfl) (by kernel_rfl) (by kernel_rfl) (fun _ _ _ h => h) (Or.inl ⟨by rfl, ?hy53⟩) (by assumption) ?rest53
      case hy53 => (intro w hSw; (try dsimp only at hSw); go_simp; (try rw [if_pos (by omega)]); (try with_reducible rfl))
      simp only [Act.put, List.setIfInBounds_toArray, List.set_cons_zero, List.set_cons_succ]
      refine wpAnyH_ready (rs := [13]) (by kernel_rfl) (by simp) ?_
      refine AllReadyH.cons (o := { dst := some 35, op := Op.call { callee := Callee.value (Operand.func 31), args := #[Operand.tmp 34, Operand.const (Value.int IntKind.i64 2)], argTypes := #[4, 3] }, type := 3, pos := "packet.go:133", after := #[{ on := 12, ground := Ground.data }, { on := 9, ground := Ground.chain }], guard := none }) rfl (fun K hK => ?_) AllReadyH.nil
      go_simp
      refine (flag_is _ _ _).mono ?_
      rintro e w2 ⟨rfl, hw2⟩
      obtain rfl := hw2.symm
      clear hw2
      refine hK.out _ _ (by simp) (fun hHeld => ?_)
      clear hK K
      refine wpAnyH_take (i := 14) (oi := { dst := some 36, op := Op.binOp BinOp.or 3 (Operand.tmp 32) (Operand.tmp 35) 3, type := 3, pos := "packet.go:133", after := #[{ on := 10, ground := Ground.data }, { on := 13, ground := Ground.data }], guard := none }) (v := ?v54) rfl (by kernel_rfl) (by kernel_rfl) (by kernel_rfl) (fun _ _ _ h => h) (Or.inl ⟨by rfl, ?hy54⟩) (by assumption) ?rest54
      case hy54 => (intro w hSw; (try dsimp only at hSw); go_simp; (try rw [if_pos (by omega)]); (try with_reducible rfl))
      simp only [Act.put, List.setIfInBounds_toArray, List.set_cons_zero, List.set_cons_succ]
      refine wpAnyH_ready (rs := [15]) (by kernel_rfl) (by simp) ?_
      refine AllReadyH.cons (o := { dst := some 2, op := Op.assign (Operand.tmp 36), type := 3, pos := "packet.go:133", after := #[{ on := 14, ground := Ground.data }, { on := 13, ground := Ground.chain }, { on := 0, ground := Ground.phase }, { on := 1, ground := Ground.phase }, { on := 2, ground := Ground.phase }, { on := 3, ground := Ground.phase }, { on := 4, ground := Ground.phase }, { on := 5, ground := Ground.phase }, { on := 6, ground := Ground.phase }, { on := 7, ground := Ground.phase }, { on := 8, ground := Ground.phase }, { on := 9, ground := Ground.phase }, { on := 10, ground := Ground.phase }, { on := 11, ground := Ground.phase }, { on := 12, ground := Ground.phase }, { on := 13, ground := Ground.phase }, { on := 14, ground := Ground.phase }], guard := none }) rfl (fun K hK => ?_) AllReadyH.nil
      go_simp
      refine hK.out _ _ (by simp) (fun hHeld => ?_)
      clear hK K
      refine wpAnyH_done (by kernel_rfl) ?_ _
      refine NoPanic.normal ?_
      go_wp2
      go_loopw [2, 3, 40] (fun f0 o0 i0 wr => ∃ (k : Nat) (bb : Bool) (F : Int), k ≤ n2 ∧ i0 = .int .i64 k ∧ f0 = .int .i64 F ∧ o0 = .bool bb ∧ Hid (F = (ws.take k).foldl cstep (cfl0 n3 n4 clean)) ∧ Hid (bb = (cok0 n2 n3 n4 && (ws.take k).all fun u => mq u.qos)) ∧ Below w.heap.size w wr) (fun _ _ i0 _ => n2 - (intOf i0).toNat)
      case atStart => exact ⟨0, _, _, Nat.zero_le _, rfl, rfl, rfl, rfl, by show _ = _; simp [cok0, l2], by go_grown⟩
      case round =>
        obtain ⟨k, bb, F, hk, rfl, rfl, rfl, HF, HO, hbel⟩ := hrel
        by_cases hkn : k = n2
        · subst hkn
          have e1 : ws.take k = ws := List.take_of_length_le (by omega)
          have HB := hide hbel
          clear hbel
          go_wp2
          go_returns
          rw [e1] at HF HO
          exact ⟨by rw [unhide HF, unhide HO, ← hn]; rfl, unhide HB⟩
        · have hlt : k < ws.length := by omega
          obtain ⟨u, hu⟩ : ∃ u, ws[k]? = some u := ⟨_, List.getElem?_eq_getElem hlt⟩
          have e1 : ws.take (k + 1) = ws.take k ++ [u] := by rw [List.take_add_one, hu]; rfl
          obtain ⟨b, off, ha, t0, t1, t2, t3, t4⟩ := ((unhide HR).below (hbel)).will k u hu
          simp only at ha
          subst ha
          have hF : Hid (cstep F u = (ws.take (k + 1)).foldl cstep (cfl0 n3 n4 clean)) := by show _ = _; rw [e1, List.foldl_append, unhide HF]; rfl
          have hO : (cok0 n2 n3 n4 && (ws.take (k + 1)).all fun u => mq u.qos) = (bb && mq u.qos) := by rw [e1, List.all_append, unhide HO]; simp [Bool.and_assoc]
          have HO2 := hide hO
          clear hO
          have HB2 : Hid (Below w.heap.size w (wr.alloc (.cells #[.string u.topic, .string u.payload, .int .i64 u.qos, .bool u.retain, u.props.val] 74)).drew) := (hbel.alloc hbel.size _).drew
          cases bb
          · go_wp2_with fail
            refine wp_region_noPanic ?_
            refine wp_region_held_drew (S := (fun w' => w'.cell? ⟨wr.heap.size, 3, none⟩ = some (.bool u.retain) ∧ w'.cell? ⟨wr.heap.size, 2, none⟩ = some (.int .i64 u.qos))) (by kernel_rfl) (by simp) (fun hHeld => ?_)
            refine wpAnyH_take (i := 0) (oi := { dst := some 50, op := Op.move (Operand.tmp 2), type := 3, pos := "packet.go:136", after := #[], guard := none }) (v := ?v55) rfl (by kernel_rfl) (by kernel_rfl) (by kernel_rfl) (fun _ _ _ h => h) (Or.inl ⟨by rfl, ?hy55⟩) (by assumption) ?rest55
            case hy55 => (intro w hSw; (try dsimp only at hSw); go_simp; (try rw [if_pos (by omega)]); (try with_reducible rfl))
            simp only [Act.put, List.setIfInBounds_toArray, List.set_cons_zero, List.set_cons_succ]
            refine wpAnyH_take (i := 1) (oi := { dst := some 51, op := Op.fieldAddr 74 (Operand.tmp 5) 3, type := 0, pos := "packet.go:136", after := #[], guard := none }) (v := ?v56) rfl (by kernel_rfl) (by kernel_rfl) (by kernel_rfl) (fun _ _ _ h => h) (Or.inl ⟨by rfl, ?hy56⟩) (by assumption) ?rest56
            case hy56 => (intro w hSw; (try dsimp only at hSw); go_simp; (try rw [if_pos (by omega)]); (try with_reducible rfl))
            simp only [Act.put, List.setIfInBounds_toArray, List.set_cons_zero, List.set_cons_succ]
            refine wpAnyH_take (i := 2) (oi := { dst := some 52, op := Op.load 4 (Operand.tmp 51), type := 4, pos := "packet.go:136", after := #[{ on := 1, ground := Ground.data }], guard := none }) (v := ?v57) rfl (by kernel_rfl) (by kernel_rfl) (by kernel_rfl) (fun _ _ _ h => h) (Or.inl ⟨by rfl, ?hy57⟩) (by assumption) ?rest57
            case hy57 => (intro w hSw; (try dsimp only at hSw); go_simp; (try rw [if_pos (by omega)]); (try with_reducible rfl))
            simp only [Act.put, List.setIfInBounds_toArray, List.set_cons_zero, List.set_cons_succ]
            refine wpAnyH_take (i := 5) (oi := { dst := some 55, op := Op.fieldAddr 74 (Operand.tmp 5) 2, type := 0, pos := "packet.go:136", after := #[], guard := none }) (v := ?v58) rfl (by kernel_rfl) (by kernel_rfl) (by kernel_rfl) (fun _ _ _ h => h) (Or.inl ⟨by rfl, ?hy58⟩) (by assumption) ?rest58
            case hy58 => (intro w hSw; (try dsimp only at hSw); go_simp; (try rw [if_pos (by omega)]); (try with_reducible rfl))
            simp only [Act.put, List.setIfInBounds_toArray, List.set_cons_zero, List.set_cons_succ]
            refine wpAnyH_take (i := 6) (oi := { dst := some 56, op := Op.load 3 (Operand.tmp 55), type := 3, pos := "packet.go:136", after := #[{ on := 5, ground := Ground.data }], guard := none }) (v := ?v59) rfl (by kernel_rfl) (by kernel_rfl) (by kernel_rfl) (fun _ _ _ h => h) (Or.inl ⟨by rfl, ?hy59⟩) (by assumption) ?rest59
            case hy59 => (intro w hSw; (try dsimp only at hSw); go_simp; (try rw [if_pos (by omega)]); (try with_reducible rfl))
            simp only [Act.put, List.setIfInBounds_toArray, List.set_cons_zero, List.set_cons_succ]
            refine wpAnyH_take (i := 7) (oi := { dst := some 57, op := Op.binOp BinOp.shl 3 (Operand.tmp 56) (Operand.const (Value.int IntKind.u64 3)) 35, type := 3, pos := "packet.go:136", after := #[{ on := 6, ground := Ground.data }], guard := none }) (v := ?v60) rfl (by kernel_rfl) (by kernel_rfl) (by kernel_rfl) (fun _ _ _ h => h) (Or.inl ⟨by rfl, ?hy60⟩) (by assumption) ?rest60
            case hy60 => (intro w hSw; (try dsimp only at hSw); go_simp; (try rw [if_pos (by omega)]); (try with_reducible rfl))
            simp only [Act.put, List.setIfInBounds_toArray, List.set_cons_zero, List.set_cons_succ]
            refine wpAnyH_ready (rs := [3]) (by kernel_rfl) (by simp) ?_
            refine AllReadyH.cons (o := { dst := some 53, op := Op.call { callee := Callee.value (Operand.func 31), args := #[Operand.tmp 52, Operand.const (Value.int IntKind.i64 32)], argTypes := #[4, 3] }, type := 3, pos := "packet.go:136", after := #[{ on := 2, ground := Ground.data }], guard := none }) rfl (fun K hK => ?_) AllReadyH.nil
            go_simp
            refine (flag_is _ _ _).mono ?_
            rintro e w2 ⟨rfl, hw2⟩
            obtain rfl := hw2.symm
            clear hw2
            refine hK.out _ _ (by simp) (fun hHeld => ?_)
            clear hK K
            refine wpAnyH_take (i := 4) (oi := { dst := some 54, op := Op.binOp BinOp.or 3 (Operand.const (Value.int IntKind.i64 4)) (Operand.tmp 53) 3, type := 3, pos := "packet.go:136", after := #[{ on := 3, ground := Ground.data }], guard := none }) (v := ?v61) rfl (by kernel_rfl) (by kernel_rfl) (by kernel_rfl) (fun _ _ _ h => h) (Or.inl ⟨by rfl, ?hy61⟩) (by assumption) ?rest61
            case hy61 => (intro w hSw; (try dsimp only at hSw); go_simp; (try rw [if_pos (by omega)]); (try with_reducible rfl))
            simp only [Act.put, List.setIfInBounds_toArray, List.set_cons_zero, List.set_cons_succ]
            refine wpAnyH_take (i := 8) (oi := { dst := some 58, op := Op.binOp BinOp.or 3 (Operand.tmp 54) (Operand.tmp 57) 3, type := 3, pos := "packet.go:136", after := #[{ on := 4, ground := Ground.data }, { on := 7, ground := Ground.data }], guard := none }) (v := ?v62) rfl (by kernel_rfl) (by kernel_rfl) (by kernel_rfl) (fun _ _ _ h => h) (Or.inl ⟨by rfl, ?hy62⟩) (by assumption) ?rest62
            case hy62 => (intro w hSw; (try dsimp only at hSw); go_simp; (try rw [if_pos (by omega)]); (try with_reducible rfl))
            simp only [Act.put, List.setIfInBounds_toArray, List.set_cons_zero, List.set_cons_succ]
            refine wpAnyH_take (i := 9) (oi := { dst := some 59, op := Op.binOp BinOp.or 3 (Operand.tmp 50) (Operand.tmp 58) 3, type := 3, pos := "packet.go:136", after := #[{ on := 0, ground := Ground.data }, { on := 8, ground := Ground.data }], guard := none }) (v := ?v63) rfl (by kernel_rfl) (by kernel_rfl) (by kernel_rfl) (fun _ _ _ h => h) (Or.inl ⟨by rfl, ?hy63⟩) (by assumption) ?rest63
            case hy63 => (intro w hSw; (try dsimp only at hSw); go_simp; (try rw [if_pos (by omega)]); (try with_reducible rfl))
            simp only [Act.put, List.setIfInBounds_toArray, List.set_cons_zero, List.set_cons_succ]
            refine wpAnyH_ready (rs := [10]) (by kernel_rfl) (by simp) ?_
            refine AllReadyH.cons (o := { dst := some 2, op := Op.assign (Operand.tmp 59), type := 3, pos := "packet.go:136", after := #[{ on := 9, ground := Ground.data }, { on := 3, ground := Ground.chain }, { on := 0, ground := Ground.phase }, { on := 1, ground := Ground.phase }, { on := 2, ground := Ground.phase }, { on := 3, ground := Ground.phase }, { on := 4, ground := Ground.phase }, { on := 5, ground := Ground.phase }, { on := 6, ground := Ground.phase }, { on := 7, ground := Ground.phase }, { on := 8, ground := Ground.phase }, { on := 9, ground := Ground.phase }], guard := none }) rfl (fun K hK => ?_) AllReadyH.nil
            go_simp
            refine hK.out _ _ (by simp) (fun hHeld => ?_)
            clear hK K
            refine wpAnyH_done (by kernel_rfl) ?_ _
            refine NoPanic.normal ?_
            go_wp2
            go_roundw
            case rel => exact ⟨k + 1, false, _, by omega, by go_num, rfl, rfl, hF, by show _ = _; rw [unhide HO2]; rfl, unhide HB2⟩
            case measure => simp [intOf]; omega
          · go_wp2_with fail
            refine (mayQoS_is u.qos _ rfl _).mono ?_
            rintro e w1 ⟨rfl, hw1⟩
            obtain rfl := hw1.symm
            clear hw1
            go_wp2_with fail
            refine wp_region_noPanic ?_
            refine wp_region_held_drew (S := (fun w' => w'.cell? ⟨wr.heap.size, 3, none⟩ = some (.bool u.retain) ∧ w'.cell? ⟨wr.heap.size, 2, none⟩ = some (.int .i64 u.qos))) (by kernel_rfl) (by simp) (fun hHeld => ?_)
            refine wpAnyH_take (i := 0) (oi := { dst := some 50, op := Op.move (Operand.tmp 2), type := 3, pos := "packet.go:136", after := #[], guard := none }) (v := ?v64) rfl (by kernel_rfl) (by kernel_rfl) (by kernel_rfl) (fun _ _ _ h => h) (Or.inl ⟨by rfl, ?hy64⟩) (by assumption) ?rest64
            case hy64 => (intro w hSw; (try dsimp only at hSw); go_simp; (try rw [if_pos (by omega)]); (try with_reducible rfl))
            simp only [Act.put, List.setIfInBounds_toArray, List.set_cons_zero, List.set_cons_succ]
            refine wpAnyH_take (i := 1) (oi := { dst := some 51, op := Op.fieldAddr 74 (Operand.tmp 5) 3, type := 0, pos := "packet.go:136", after := #[], guard := none }) (v := ?v65) rfl (by kernel_rfl) (by kernel_rfl) (by kernel_rfl) (fun _ _ _ h => h) (Or.inl ⟨by rfl, ?hy65⟩) (by assumption) ?rest65
            case hy65 => (intro w hSw; (try dsimp only at hSw); go_simp; (try rw [if_pos (by omega)]); (try with_reducible rfl))
            simp only [Act.put, List.setIfInBounds_toArray, List.set_cons_zero, List.set_cons_succ]
            refine wpAnyH_take (i := 2) (oi := { dst := some 52, op := Op.load 4 (Operand.tmp 51), type := 4, pos := "packet.go:136", after := #[{ on := 1, ground := Ground.data }], guard := none }) (v := ?v66) rfl (by kernel_rfl) (by kernel_rfl) (by kernel_rfl) (fun _ _ _ h => h) (Or.inl ⟨by rfl, ?hy66⟩) (by assumption) ?rest66
            case hy66 => (intro w hSw; (try dsimp only at hSw); go_simp; (try rw [if_pos (by omega)]); (try with_reducible rfl))
            simp only [Act.put, List.setIfInBounds_toArray, List.set_cons_zero, List.set_cons_succ]
            refine wpAnyH_take (i := 5) (oi := { dst := some 55, op := Op.fieldAddr 74 (Operand.tmp 5) 2, type := 0, pos := "packet.go:136", after := #[], guard := none }) (v := ?v67) rfl (by kernel_rfl) (by kernel_rfl) (by kernel_rfl) (fun _ _ _ h => h) (Or.inl ⟨by rfl, ?hy67⟩) (by assumption) ?rest67
            case hy67 => (intro w hSw; (try dsimp only at hSw); go_simp; (try rw [if_pos (by omega)]); (try with_reducible rfl))
            simp only [Act.put, List.setIfInBounds_toArray, List.set_cons_zero, List.set_cons_succ]
            refine wpAnyH_take (i := 6) (oi := { dst := some 56, op := Op.load 3 (Operand.tmp 55), type := 3, pos := "packet.go:136", after := #[{ on := 5, ground := Ground.data }], guard := none }) (v := ?v68) rfl (by kernel_rfl) (by kernel_rfl) (by kernel_rfl) (fun _ _ _ h => h) (Or.inl ⟨by rfl, ?hy68⟩) (by assumption) ?rest68
            case hy68 => (intro w hSw; (try dsimp only at hSw); go_simp; (try rw [if_pos (by omega)]); (try with_reducible rfl))
            simp only [Act.put, List.setIfInBounds_toArray, List.set_cons_zero, List.set_cons_succ]
            refine wpAnyH_take (i := 7) (oi := { dst := some 57, op := Op.binOp BinOp.shl 3 (Operand.tmp 56) (Operand.const (Value.int IntKind.u64 3)) 35, type := 3, pos := "packet.go:136", after := #[{ on := 6, ground := Ground.data }], guard := none }) (v := ?v69) rfl (by kernel_rfl) (by kernel_rfl) (by kernel_rfl) (fun _ _ _ h => h) (Or.inl ⟨by rfl, ?hy69⟩) (by assumption) ?rest69
            case hy69 => (intro w hSw; (try dsimp only at hSw); go_simp; (try rw [if_pos (by omega)]); (try with_reducible rfl))
            simp only [Act.put, List.setIfInBounds_toArray, List.set_cons_zero, List.set_cons_succ]
            refine wpAnyH_ready (rs := [3]) (by kernel_rfl) (by simp) ?_
            refine AllReadyH.cons (o := { dst := some 53, op := Op.call { callee := Callee.value (Operand.func 31), args := #[Operand.tmp 52, Operand.const (Value.int IntKind.i64 32)], argTypes := #[4, 3] }, type := 3, pos := "packet.go:136", after := #[{ on := 2, ground := Ground.data }], guard := none }) rfl (fun K hK => ?_) AllReadyH.nil
            go_simp
            refine (flag_is _ _ _).mono ?_
            rintro e w2 ⟨rfl, hw2⟩
            obtain rfl := hw2.symm
            clear hw2
            refine hK.out _ _ (by simp) (fun hHeld => ?_)
            clear hK K
            refine wpAnyH_take (i := 4) (oi := { dst := some 54, op := Op.binOp BinOp.or 3 (Operand.const (Value.int IntKind.i64 4)) (Operand.tmp 53) 3, type := 3, pos := "packet.go:136", after := #[{ on := 3, ground := Ground.data }], guard := none }) (v := ?v70) rfl (by kernel_rfl) (by kernel_rfl) (by kernel_rfl) (fun _ _ _ h => h) (Or.inl ⟨by rfl, ?hy70⟩) (by assumption) ?rest70
            case hy70 => (intro w hSw; (try dsimp only at hSw); go_simp; (try rw [if_pos (by omega)]); (try with_reducible rfl))
            simp only [Act.put, List.setIfInBounds_toArray, List.set_cons_zero, List.set_cons_succ]
            refine wpAnyH_take (i := 8) (oi := { dst := some 58, op := Op.binOp BinOp.or 3 (Operand.tmp 54) (Operand.tmp 57) 3, type := 3, pos := "packet.go:136", after := #[{ on := 4, ground := Ground.data }, { on := 7, ground := Ground.data }], guard := none }) (v := ?v71) rfl (by kernel_rfl) (by kernel_rfl) (by kernel_rfl) (fun _ _ _ h => h) (Or.inl ⟨by rfl, ?hy71⟩) (by assumption) ?rest71
            case hy71 => (intro w hSw; (try dsimp only at hSw); go_simp; (try rw [if_pos (by omega)]); (try with_reducible rfl))
            simp only [Act.put, List.setIfInBounds_toArray, List.set_cons_zero, List.set_cons_succ]
            refine wpAnyH_take (i := 9) (oi := { dst := some 59, op := Op.binOp BinOp.or 3 (Operand.tmp 50) (Operand.tmp 58) 3, type := 3, pos := "packet.go:136", after := #[{ on := 0, ground := Ground.data }, { on := 8, ground := Ground.data }], guard := none }) (v := ?v72) rfl (by kernel_rfl) (by kernel_rfl) (by kernel_rfl) (fun _ _ _ h => h) (Or.inl ⟨by rfl, ?hy72⟩) (by assumption) ?rest72
            case hy72 => (intro w hSw; (try dsimp only at hSw); go_simp; (try rw [if_pos (by omega)]); (try with_reducible rfl))
            simp only [Act.put, List.setIfInBounds_toArray, List.set_cons_zero, List.set_cons_succ]
            refine wpAnyH_ready (rs := [10]) (by kernel_rfl) (by simp) ?_
            refine AllReadyH.cons (o := { dst := some 2, op := Op.assign (Operand.tmp 59), type := 3, pos := "packet.go:136", after := #[{ on := 9, ground := Ground.data }, { on := 3, ground := Ground.chain }, { on := 0, ground := Ground.phase }, { on := 1, ground := Ground.phase }, { on := 2, ground := Ground.phase }, { on := 3, ground := Ground.phase }, { on := 4, ground := Ground.phase }, { on := 5, ground := Ground.phase }, { on := 6, ground := Ground.phase }, { on := 7, ground := Ground.phase }, { on := 8, ground := Ground.phase }, { on := 9, ground := Ground.phase }], guard := none }) rfl (fun K hK => ?_) AllReadyH.nil
            go_simp
            refine hK.out _ _ (by simp) (fun hHeld => ?_)
            clear hK K
            refine wpAnyH_done (by kernel_rfl) ?_ _
            refine NoPanic.normal ?_
            go_wp2
            go_roundw
            case rel => exact ⟨k + 1, mq u.qos, _, by omega, by go_num, rfl, rfl, hF, by show _ = _; rw [unhide HO2]; rfl, unhide HB2⟩
            case measure => simp [intOf]; omega
  · go_enter Tryz.func63, Tryz.ntmps63
    go_wp2_with fail
    refine wp_region_noPanic ?_
    refine wp_region_held_drew (S := (fun w' => w'.cell? ⟨w.heap.size, 12, none⟩ = some (.slice a3 n3 c3) ∧ w'.cell? ⟨w.heap.size, 13, none⟩ = some (.slice a4 n4 c4) ∧ w'.cell? ⟨w.heap.size, 9, none⟩ = some (.bool clean))) (by kernel_rfl) (by simp) (fun hHeld => ?_)
    refine wpAnyH_take (i := 0) (oi := { dst := some 22, op := Op.fieldAddr 30 (Operand.tmp 1) 12, type := 0, pos := "packet.go:133", after := #[], guard := none }) (v := ?v73) rfl (by kernel_rfl) (by kernel_rfl) (by kernel_rfl) (fun _ _ _ h => h) (Or.inl ⟨by rfl, ?hy73⟩) (by assumption) ?rest73
    case hy73 => (intro w hSw; (try dsimp only at hSw); go_simp; (try rw [if_pos (by omega)]); (try with_reducible rfl))
    simp only [Act.put, List.setIfInBounds_toArray, List.set_cons_zero, List.set_cons_succ]
    refine wpAnyH_take (i := 1) (oi := { dst := some 23, op := Op.load 26 (Operand.tmp 22), type := 26, pos := "packet.go:133", after := #[{ on := 0, ground := Ground.data }], guard := none }) (v := ?v74) rfl (by kernel_rfl) (by kernel_rfl) (by kernel_rfl) (fun _ _ _ h => h) (Or.inl ⟨by rfl, ?hy74⟩) (by assumption) ?rest74
    case hy74 => (intro w hSw; (try dsimp only at hSw); go_simp; (try rw [if_pos (by omega)]); (try with_reducible rfl))
    simp only [Act.put, List.setIfInBounds_toArray, List.set_cons_zero, List.set_cons_succ]
    refine wpAnyH_take (i := 2) (oi := { dst := some 24, op := Op.call { callee := Callee.builtin Builtin.len, args := #[Operand.tmp 23], argTypes := #[26] }, type := 3, pos := "packet.go:133", after := #[{ on := 1, ground := Ground.data }], guard := none }) (v := ?v75) rfl (by kernel_rfl) (by kernel_rfl) (by kernel_rfl) (fun _ _ _ h => h) (Or.inl ⟨by rfl, ?hy75⟩) (by assumption) ?rest75
    case hy75 => (intro w hSw; (try dsimp only at hSw); go_simp; (try rw [if_pos (by omega)]); (try with_reducible rfl))
    simp only [Act.put, List.setIfInBounds_toArray, List.set_cons_zero, List.set_cons_succ]
    refine wpAnyH_take (i := 3) (oi := { dst := some 25, op := Op.binOp BinOp.gtr 3 (Operand.tmp 24) (Operand.const (Value.int IntKind.i64 0)) 3, type := 4, pos := "packet.go:133", after := #[{ on := 2, ground := Ground.data }], guard := none }) (v := ?v76) rfl (by kernel_rfl) (by kernel_rfl) (by kernel_rfl) (fun _ _ _ h => h) (Or.inl ⟨by rfl, ?hy76⟩) (by assumption) ?rest76
    case hy76 => (intro w hSw; (try dsimp only at hSw); go_simp; (try rw [if_pos (by omega)]); (try with_reducible rfl))
    simp only [Act.put, List.setIfInBounds_toArray, List.set_cons_zero, List.set_cons_succ]
    refine wpAnyH_take (i := 5) (oi := { dst := some 27, op := Op.fieldAddr 30 (Operand.tmp 1) 13, type := 0, pos := "packet.go:133", after := #[], guard := none }) (v := ?v77) rfl (by kernel_rfl) (by kernel_rfl) (by kernel_rfl) (fun _ _ _ h => h) (Or.inl ⟨by rfl, ?hy77⟩) (by assumption) ?rest77
    case hy77 => (intro w hSw; (try dsimp only at hSw); go_simp; (try rw [if_pos (by omega)]); (try with_reducible rfl))
    simp only [Act.put, List.setIfInBounds_toArray, List.set_cons_zero, List.set_cons_succ]
    refine wpAnyH_take (i := 6) (oi := { dst := some 28, op := Op.load 26 (Operand.tmp 27), type := 26, pos := "packet.go:133", after := #[{ on := 5, ground := Ground.data }], guard := none }) (v := ?v78) rfl (by kernel_rfl) (by kernel_rfl) (by kernel_rfl) (fun _ _ _ h => h) (Or.inl ⟨by rfl, ?hy78⟩) (by assumption) ?rest78
    case hy78 => (intro w hSw; (try dsimp only at hSw); go_simp; (try rw [if_pos (by omega)]); (try with_reducible rfl))
    simp only [Act.put, List.setIfInBounds_toArray, List.set_cons_zero, List.set_cons_succ]
    refine wpAnyH_take (i := 7) (oi := { dst := some 29, op := Op.call { callee := Callee.builtin Builtin.len, args := #[Operand.tmp 28], argTypes := #[26] }, type := 3, pos := "packet.go:133", after := #[{ on := 6, ground := Ground.data }], guard := none }) (v := ?v79) rfl (by kernel_rfl) (by kernel_rfl) (by kernel_rfl) (fun _ _ _ h => h) (Or.inl ⟨by rfl, ?hy79⟩) (by assumption) ?rest79
    case hy79 => (intro w hSw; (try dsimp only at hSw); go_simp; (try rw [if_pos (by omega)]); (try with_reducible rfl))
    simp only [Act.put, List.setIfInBounds_toArray, List.set_cons_zero, List.set_cons_succ]
    refine wpAnyH_take (i := 8) (oi := { dst := some 30, op := Op.binOp BinOp.gtr 3 (Operand.tmp 29) (Operand.const (Value.int IntKind.i64 0)) 3, type := 4, pos := "packet.go:133", after := #[{ on := 7, ground := Ground.data }], guard := none }) (v := ?v80) rfl (by kernel_rfl) (by kernel_rfl) (by kernel_rfl) (fun _ _ _ h => h) (Or.inl ⟨by rfl, ?hy80⟩) (by assumption) ?rest80
    case hy80 => (intro w hSw; (try dsimp only at hSw); go_simp; (try rw [if_pos (by omega)]); (try with_reducible rfl))
    simp only [Act.put, List.setIfInBounds_toArray, List.set_cons_zero, List.set_cons_succ]
    refine wpAnyH_take (i := 11) (oi := { dst := some 33, op := Op.fieldAddr 30 (Operand.tmp 1) 9, type := 0, pos := "packet.go:133", after := #[], guard := none }) (v := ?v81) rfl (by kernel_rfl) (by kernel_rfl) (by kernel_rfl) (fun _ _ _ h => h) (Or.inl ⟨by rfl, ?hy81⟩) (by assumption) ?rest81
    case hy81 => (intro w hSw; (try dsimp only at hSw); go_simp; (try rw [if_pos (by omega)]); (try with_reducible rfl))
    simp only [Act.put, List.setIfInBounds_toArray, List.set_cons_zero, List.set_cons_succ]
    refine wpAnyH_take (i := 12) (oi := { dst := some 34, op := Op.load 4 (Operand.tmp 33), type := 4, pos := "packet.go:133", after := #[{ on := 11, ground := Ground.data }], guard := none }) (v := ?v82) rfl (by kernel_rfl) (by kernel_rfl) (by kernel_rfl) (fun _ _ _ h => h) (Or.inl ⟨by rfl, ?hy82⟩) (by assumption) ?rest82
    case hy82 => (intro w hSw; (try dsimp only at hSw); go_simp; (try rw [if_pos (by omega)]); (try with_reducible rfl))
    simp only [Act.put, List.setIfInBounds_toArray, List.set_cons_zero, List.set_cons_succ]
    refine wpAnyH_ready (rs := [4]) (by kernel_rfl) (by simp) ?_
    refine AllReadyH.cons (o := { dst := some 26, op := Op.call { callee := Callee.value (Operand.func 31), args := #[Operand.tmp 25, Operand.const (Value.int IntKind.i64 128)], argTypes := #[4, 3] }, type := 3, pos := "packet.go:133", after := #[{ on := 3, ground := Ground.data }], guard := none }) rfl (fun K hK => ?_) AllReadyH.nil
    go_simp
    refine (flag_is _ _ _).mono ?_
    rintro e w2 ⟨rfl, hw2⟩
    obtain rfl := hw2.symm
    clear hw2
    refine hK.out _ _ (by simp) (fun hHeld => ?_)
    clear hK K
    refine wpAnyH_ready (rs := [9]) (by kernel_rfl) (by simp) ?_
    refine AllReadyH.cons (o := { dst := some 31, op := Op.call { callee := Callee.value (Operand.func 31), args := #[Operand.tmp 30, Operand.const (Value.int IntKind.i64 64)], argTypes := #[4, 3] }, type := 3, pos := "packet.go:133", after := #[{ on := 8, ground := Ground.data }, { on := 4, ground := Ground.chain }], guard := none }) rfl (fun K hK => ?_) AllReadyH.nil
    go_simp
    refine (flag_is _ _ _).mono ?_
    rintro e w2 ⟨rfl, hw2⟩
    obtain rfl := hw2.symm
    clear hw2
    refine hK.out _ _ (by simp) (fun hHeld => ?_)
    clear hK K
    refine wpAnyH_take (i := 10) (oi := { dst := some 32, op := Op.binOp BinOp.or 3 (Operand.tmp 26) (Operand.tmp 31) 3, type := 3, pos := "packet.go:133", after := #[{ on := 4, ground := Ground.data }, { on := 9, ground := Ground.data }], guard := none }) (v := ?v83) rfl (by kernel_rfl) (by kernel_rfl) (by kernel_rfl) (fun _ _ _ h => h) (Or.inl ⟨by rfl, ?hy83⟩) (by assumption) ?rest83
    case hy83 => (intro w hSw; (try dsimp only at hSw); go_simp; (try rw [if_pos (by omega)]); (try with_reducible rfl))
    simp only [Act.put, List.setIfInBounds_toArray, List.set_cons_zero, List.set_cons_succ]
    refine wpAnyH_ready (rs := [13]) (by kernel_rfl) (by simp) ?_
    refine AllReadyH.cons (o := { dst := some 35, op := Op.call { callee := Callee.value (Operand.func 31), args := #[Operand.tmp 34, Operand.const (Value.int IntKind.i64 2)], argTypes := #[4, 3] }, type := 3, pos := "packet.go:133", after := #[{ on := 12, ground := Ground.data }, { on := 9, ground := Ground.chain }], guard := none }) rfl (fun K hK => ?_) AllReadyH.nil
    go_simp
    refine (flag_is _ _ _).mono ?_
    rintro e w2 ⟨rfl, hw2⟩
    obtain rfl := hw2.symm
    clear hw2
    refine hK.out _ _ (by simp) (fun hHeld => ?_)
    clear hK K
    refine wpAnyH_take (i := 14) (oi := { dst := some 36, op := Op.binOp BinOp.or 3 (Operand.tmp 32) (Operand.tmp 35) 3, type := 3, pos := "packet.go:133", after := #[{ on := 10, ground := Ground.data }, { on := 13, ground := Ground.data }], guard := none }) (v := ?v84) rfl (by kernel_rfl) (by kernel_rfl) (by kernel_rfl) (fun _ _ _ h => h) (Or.inl ⟨by rfl, ?hy84⟩) (by assumption) ?rest84
    case hy84 => (intro w hSw; (try dsimp only at hSw); go_simp; (try rw [if_pos (by omega)]); (try with_reducible rfl))
    simp only [Act.put, List.setIfInBounds_toArray, List.set_cons_zero, List.set_cons_succ]
    refine wpAnyH_ready (rs := [15]) (by kernel_rfl) (by simp) ?_
    refine AllReadyH.cons (o := { dst := some 2, op := Op.assign (Operand.tmp 36), type := 3, pos := "packet.go:133", after := #[{ on := 14, ground := Ground.data }, { on := 13, ground := Ground.chain }, { on := 0, ground := Ground.phase }, { on := 1, ground := Ground.phase }, { on := 2, ground := Ground.phase }, { on := 3, ground := Ground.phase }, { on := 4, ground := Ground.phase }, { on := 5, ground := Ground.phase }, { on := 6, ground := Ground.phase }, { on := 7, ground := Ground.phase }, { on := 8, ground := Ground.phase }, { on := 9, ground := Ground.phase }, { on := 10, ground := Ground.phase }, { on := 11, ground := Ground.phase }, { on := 12, ground := Ground.phase }, { on := 13, ground := Ground.phase }, { on := 14, ground := Ground.phase }], guard := none }) rfl (fun K hK => ?_) AllReadyH.nil
    go_simp
    refine hK.out _ _ (by simp) (fun hHeld => ?_)
    clear hK K
    refine wpAnyH_done (by kernel_rfl) ?_ _
    refine NoPanic.normal ?_
    go_wp2
    go_loopw [2, 3, 40] (fun f0 o0 i0 wr => ∃ (k : Nat) (bb : Bool) (F : Int), k ≤ n2 ∧ i0 = .int .i64 k ∧ f0 = .int .i64 F ∧ o0 = .bool bb ∧ Hid (F = (ws.take k).foldl cstep (cfl0 n3 n4 clean)) ∧ Hid (bb = (cok0 n2 n3 n4 && (ws.take k).all fun u => mq u.qos)) ∧ Below w.heap.size w wr) (fun _ _ i0 _ => n2 - (intOf i0).toNat)
    case atStart => exact ⟨0, _, _, Nat.zero_le _, rfl, rfl, rfl, rfl, by show _ = _; simp [cok0, l1], by go_grown⟩
    case round =>
      obtain ⟨k, bb, F, hk, rfl, rfl, rfl, HF, HO, hbel⟩ := hrel
      by_cases hkn : k = n2
      · subst hkn
        have e1 : ws.take k = ws := List.take_of_length_le (by omega)
        have HB := hide hbel
        clear hbel
        go_wp2
        go_returns
        rw [e1] at HF HO
        exact ⟨by rw [unhide HF, unhide HO, ← hn]; rfl, unhide HB⟩
      · have hlt : k < ws.length := by omega
        obtain ⟨u, hu⟩ : ∃ u, ws[k]? = some u := ⟨_, List.getElem?_eq_getElem hlt⟩
        have e1 : ws.take (k + 1) = ws.take k ++ [u] := by rw [List.take_add_one, hu]; rfl
        obtain ⟨b, off, ha, t0, t1, t2, t3, t4⟩ := ((unhide HR).below (hbel)).will k u hu
        simp only at ha
        subst ha
        have hF : Hid (cstep F u = (ws.take (k + 1)).foldl cstep (cfl0 n3 n4 clean)) := by show _ = _; rw [e1, List.foldl_append, unhide HF]; rfl
        have hO : (cok0 n2 n3 n4 && (ws.take (k + 1)).all fun u => mq u.qos) = (bb && mq u.qos) := by rw [e1, List.all_append, unhide HO]; simp [Bool.and_assoc]
        have HO2 := hide hO
        clear hO
        have HB2 : Hid (Below w.heap.size w (wr.alloc (.cells #[.string u.topic, .string u.payload, .int .i64 u.qos, .bool u.retain, u.props.val] 74)).drew) := (hbel.alloc hbel.size _).drew
        cases bb
        · go_wp2_with fail
          refine wp_region_noPanic ?_
          refine wp_region_held_drew (S := (fun w' => w'.cell? ⟨wr.heap.size, 3, none⟩ = some (.bool u.retain) ∧ w'.cell? ⟨wr.heap.size, 2, none⟩ = some (.int .i64 u.qos))) (by kernel_rfl) (by simp) (fun hHeld => ?_)
          refine wpAnyH_take (i := 0) (oi := { dst := some 50, op := Op.move (Operand.tmp 2), type := 3, pos := "packet.go:136", after := #[], guard := none }) (v := ?v85) rfl (by kernel_rfl) (by kernel_rfl) (by kernel_rfl) (fun _ _ _ h => h) (Or.inl ⟨by rfl, ?hy85⟩) (by assumption) ?rest85
          case hy85 => (intro w hSw; (try dsimp only at hSw); go_simp; (try rw [if_pos (by omega)]); (try with_reducible rfl))
          simp only [Act.put, List.setIfInBounds_toArray, List.set_cons_zero, List.set_cons_succ]
          refine wpAnyH_take (i := 1) (oi := { dst := some 51, op := Op.fieldAddr 74 (Operand.tmp 5) 3, type := 0, pos := "packet.go:136", after := #[], guard := none }) (v := ?v86) rfl (by kernel_rfl) (by kernel_rfl) (by kernel_rfl) (fun _ _ _ h => h) (Or.inl ⟨by rfl, ?hy86⟩) (by assumption) ?rest86
          case hy86 => (intro w hSw; (try dsimp only at hSw); go_simp; (try rw [if_pos (by omega)]); (try with_reducible rfl))
          simp only [Act.put, List.setIfInBounds_toArray, List.set_cons_zero, List.set_cons_succ]
          refine wpAnyH_take (i := 2) (oi := { dst := some 52, op := Op.load 4 (Operand.tmp 51), type := 4, pos := "packet.go:136", after := #[{ on := 1, ground := Ground.data }], guard := none }) (v := ?v87) rfl (by kernel_rfl) (by kernel_rfl) (by kernel_rfl) (fun _ _ _ h => h) (Or.inl ⟨by rfl, ?hy87⟩) (by assumption) ?rest87
          case hy87 => (intro w hSw; (try dsimp only at hSw); go_simp; (try rw [if_pos (by omega)]); (try with_reducible rfl))
          simp only [Act.put, List.setIfInBounds_toArray, List.set_cons_zero, List.set_cons_succ]
          refine wpAnyH_take (i := 5) (oi := { dst := some 55, op := Op.fieldAddr 74 (Operand.tmp 5) 2, type := 0, pos := "packet.go:136", after := #[], guard := none }) (v := ?v88) rfl (by kernel_rfl) (by kernel_rfl) (by kernel_rfl) (fun _ _ _ h => h) (Or.inl ⟨by rfl, ?hy88⟩) (by assumption) ?rest88
          case hy88 => (intro w hSw; (try dsimp only at hSw); go_simp; (try rw [if_pos (by omega)]); (try with_reducible rfl))
          simp only [Act.put, List.setIfInBounds_toArray, List.set_cons_zero, List.set_cons_succ]
          refine wpAnyH_take (i := 6) (oi := { dst := some 56, op := Op.load 3 (Operand.tmp 55), type := 3, pos := "packet.go:136", after := #[{ on := 5, ground := Ground.data }], guard := none }) (v := ?v89) rfl (by kernel_rfl) (by kernel_rfl) (by kernel_rfl) (fun _ _ _ h => h) (Or.inl ⟨by rfl, ?hy89⟩) (by assumption) ?rest89
          case hy89 => (intro w hSw; (try dsimp only at hSw); go_simp; (try rw [if_pos (by omega)]); (try with_reducible rfl))
          simp only [Act.put, List.setIfInBounds_toArray, List.set_cons_zero, List.set_cons_succ]
          refine wpAnyH_take (i := 7) (oi := { dst := some 57, op := Op.binOp BinOp.shl 3 (Operand.tmp 56) (Operand.const (Value.int IntKind.u64 3)) 35, type := 3, pos := "packet.go:136", after := #[{ on := 6, ground := Ground.data }], guard := none }) (v := ?v90) rfl (by kernel_rfl) (by kernel_rfl) (by kernel_rfl) (fun _ _ _ h => h) (Or.inl ⟨by rfl, ?hy90⟩) (by assumption) ?rest90
          case hy90 => (intro w hSw; (try dsimp only at hSw); go_simp; (try rw [if_pos (by omega)]); (try with_reducible rfl))
          simp only [Act.put, List.setIfInBounds_toArray, List.set_cons_zero, List.set_cons_succ]
          refine wpAnyH_ready (rs := [3]) (by kernel_rfl) (by simp) ?_
          refine AllReadyH.cons (o := { dst := some 53, op := Op.call { callee := Callee.value (Operand.func 31), args := #[Operand.tmp 52, Operand.const (Value.int IntKind.i64 32)], argTypes := #[4, 3] }, type := 3, pos := "packet.go:136", after := #[{ on := 2, ground := Ground.data }], guard := none }) rfl (fun K hK => ?_) AllReadyH.nil
          go_simp
          refine (flag_is _ _ _).mono ?_
          rintro e w2 ⟨rfl, hw2⟩
          obtain rfl := hw2.symm
          clear hw2
          refine hK.out _ _ (by simp) (fun hHeld => ?_)
          clear hK K
          refine wpAnyH_take (i := 4) (oi := { dst := some 54, op := Op.binOp BinOp.or 3 (Operand.const (Value.int IntKind.i64 4)) (Operand.tmp 53) 3, type := 3, pos := "packet.go:136", after := #[{ on := 3, ground := Ground.data }], guard := none }) (v := ?v91) rfl (by kernel_rfl) (by kernel_rfl) (by kernel_rfl) (fun _ _ _ h => h) (Or.inl ⟨by rfl, ?hy91⟩) (by assumption) ?rest91
          case hy91 => (intro w hSw; (try dsimp only at hSw); go_simp; (try rw [if_pos (by omega)]); (try with_reducible rfl))
          simp only [Act.put, List.setIfInBounds_toArray, List.set_cons_zero, List.set_cons_succ]
          refine wpAnyH_take (i := 8) (oi := { dst := some 58, op := Op.binOp BinOp.or 3 (Operand.tmp 54) (Operand.tmp 57) 3, type := 3, pos := "packet.go:136", after := #[{ on := 4, ground := Ground.data }, { on := 7, ground := Ground.data }], guard := none }) (v := ?v92) rfl (by kernel_rfl) (by kernel_rfl) (by kernel_rfl) (fun _ _ _ h => h) (Or.inl ⟨by rfl, ?hy92⟩) (by assumption) ?rest92
          case hy92 => (intro w hSw; (try dsimp only at hSw); go_simp; (try rw [if_pos (by omega)]); (try with_reducible rfl))
          simp only [Act.put, List.setIfInBounds_toArray, List.set_cons_zero, List.set_cons_succ]
          refine wpAnyH_take (i := 9) (oi := { dst := some 59, op := Op.binOp BinOp.or 3 (Operand.tmp 50) (Operand.tmp 58) 3, type := 3, pos := "packet.go:136", after := #[{ on := 0, ground := Ground.data }, { on := 8, ground := Ground.data }], guard := none }) (v := ?v93) rfl (by kernel_rfl) (by kernel_rfl) (by kernel_rfl) (fun _ _ _ h => h) (Or.inl ⟨by rfl, ?hy93⟩) (by assumption) ?rest93
          case hy93 => (intro w hSw; (try dsimp only at hSw); go_simp; (try rw [if_pos (by omega)]); (try with_reducible rfl))
          simp only [Act.put, List.setIfInBounds_toArray, List.set_cons_zero, List.set_cons_succ]
          refine wpAnyH_ready (rs := [10]) (by kernel_rfl) (by simp) ?_
          refine AllReadyH.cons (o := { dst := some 2, op := Op.assign (Operand.tmp 59), type := 3, pos := "packet.go:136", after := #[{ on := 9, ground := Ground.data }, { on := 3, ground := Ground.chain }, { on := 0, ground := Ground.phase }, { on := 1, ground := Ground.phase }, { on := 2, ground := Ground.phase }, { on := 3, ground := Ground.phase }, { on := 4, ground := Ground.phase }, { on := 5, ground := Ground.phase }, { on := 6, ground := Ground.phase }, { on := 7, ground := Ground.phase }, { on := 8, ground := Ground.phase }, { on := 9, ground := Ground.phase }], guard := none }) rfl (fun K hK => ?_) AllReadyH.nil
          go_simp
          refine hK.out _ _ (by simp) (fun hHeld => ?_)
          clear hK K
          refine wpAnyH_done (by kernel_rfl) ?_ _
          refine NoPanic.normal ?_
          go_wp2
          go_roundw
          case rel => exact ⟨k + 1, false, _, by omega, by go_num, rfl, rfl, hF, by show _ = _; rw [unhide HO2]; rfl, unhide HB2⟩
          case measure => simp [intOf]; omega
        · go_wp2_with fail
          refine (mayQoS_is u.qos _ rfl _).mono ?_
          rintro e w1 ⟨rfl, hw1⟩
          obtain rfl := hw1.symm
          clear hw1
          go_wp2_with fail
          refine wp_region_noPanic ?_
          refine wp_region_held_drew (S := (fun w' => w'.cell? ⟨wr.heap.size, 3, none⟩ = some (.bool u.retain) ∧ w'.cell? ⟨wr.heap.size, 2, none⟩ = some (.int .i64 u.qos))) (by kernel_rfl) (by simp) (fun hHeld => ?_)
          refine wpAnyH_take (i := 0) (oi := { dst := some 50, op := Op.move (Operand.tmp 2), type := 3, pos := "packet.go:136", after := #[], guard := none }) (v := ?v94) rfl (by kernel_rfl) (by kernel_rfl) (by kernel_rfl) (fun _ _ _ h => h) (Or.inl ⟨by rfl, ?hy94⟩) (by assumption) ?rest94
          case hy94 => (intro w hSw; (try dsimp only at hSw); go_simp; (try rw [if_pos (by omega)]); (try with_reducible rfl))
          simp only [Act.put, List.setIfInBounds_toArray, List.set_cons_zero, List.set_cons_succ]
          refine wpAnyH_take (i := 1) (oi := { dst := some 51, op := Op.fieldAddr 74 (Operand.tmp 5) 3, type := 0, pos := "packet.go:136", after := #[], guard := none }) (v := ?v95) rfl (by kernel_rfl) (by kernel_rfl) (by kernel_rfl) (fun _ _ _ h => h) (Or.inl ⟨by rfl, ?hy95⟩) (by assumption) ?rest95
          case hy95 => (intro w hSw; (try dsimp only at hSw); go_simp; (try rw [if_pos (by omega)]); (try with_reducible rfl))
          simp only [Act.put, List.setIfInBounds_toArray, List.set_cons_zero, List.set_cons_succ]
          refine wpAnyH_take (i := 2) (oi := { dst := some 52, op := Op.load 4 (Operand.tmp 51), type := 4, pos := "packet.go:136", after := #[{ on := 1, ground := Ground.data }], guard := none }) (v := ?v96) rfl (by kernel_rfl) (by kernel_rfl) (by kernel_rfl) (fun _ _ _ h => h) (Or.inl ⟨by rfl, ?hy96⟩) (by assumption) ?rest96
          case hy96 => (intro w hSw; (try dsimp only at hSw); go_simp; (try rw [if_pos (by omega)]); (try with_reducible rfl))
          simp only [Act.put, List.setIfInBounds_toArray, List.set_cons_zero, List.set_cons_succ]
          refine wpAnyH_take (i := 5) (oi := { dst := some 55, op := Op.fieldAddr 74 (Operand.tmp 5) 2, type := 0, pos := "packet.go:136", after := #[], guard := none }) (v := ?v97) rfl (by kernel_rfl) (by kernel_rfl) (by kernel_rfl) (fun _ _ _ h => h) (Or.inl ⟨by rfl, ?hy97⟩) (by assumption) ?rest97
          case hy97 => (intro w hSw; (try dsimp only at hSw); go_simp; (try rw [if_pos (by omega)]); (try with_reducible rfl))
          simp only [Act.put, List.setIfInBounds_toArray, List.set_cons_zero, List.set_cons_succ]
          refine wpAnyH_take (i := 6) (oi := { dst := some 56, op := Op.load 3 (Operand.tmp 55), type := 3, pos := "packet.go:136", after := #[{ on := 5, ground := Ground.data }], guard := none }) (v := ?v98) rfl (by kernel_rfl) (by kernel_rfl) (by kernel_rfl) (fun _ _ _ h => h) (Or.inl ⟨by rfl, ?hy98⟩) (by assumption) ?rest98
          case hy98 => (intro w hSw; (try dsimp only at hSw); go_simp; (try rw [if_pos (by omega)]); (try with_reducible rfl))
          simp only [Act.put, List.setIfInBounds_toArray, List.set_cons_zero, List.set_cons_succ]
          refine wpAnyH_take (i := 7) (oi := { dst := some 57, op := Op.binOp BinOp.shl 3 (Operand.tmp 56) (Operand.const (Value.int IntKind.u64 3)) 35, type := 3, pos := "packet.go:136", after := #[{ on := 6, ground := Ground.data }], guard := none }) (v := ?v99) rfl (by kernel_rfl) (by kernel_rfl) (by kernel_rfl) (fun _ _ _ h => h) (Or.inl ⟨by rfl, ?hy99⟩) (by assumption) ?rest99
          case hy99 => (intro w hSw; (try dsimp only at hSw); go_simp; (try rw [if_pos (by omega)]); (try with_reducible rfl))
          simp only [Act.put, List.setIfInBounds_toArray, List.set_cons_zero, List.set_cons_succ]
          refine wpAnyH_ready (rs := [3]) (by kernel_rfl) (by simp) ?_
          refine AllReadyH.cons (o := { dst := some 53, op := Op.call { callee := Callee.value (Operand.func 31), args := #[Operand.tmp 52, Operand.const (Value.int IntKind.i64 32)], argTypes := #[4, 3] }, type := 3, pos := "packet.go:136", after := #[{ on := 2, ground := Ground.data }], guard := none }) rfl (fun K hK => ?_) AllReadyH.nil
          go_simp
          refine (flag_is _ _ _).mono ?_
          rintro e w2 ⟨rfl, hw2⟩
          obtain rfl := hw2.symm
          clear hw2
          refine hK.out _ _ (by simp) (fun hHeld => ?_)
          clear hK K
          refine wpAnyH_take (i := 4) (oi := { dst := some 54, op := Op.binOp BinOp.or 3 (Operand.const (Value.int IntKind.i64 4)) (Operand.tmp 53) 3, type := 3, pos := "packet.go:136", after := #[{ on := 3, ground := Ground.data }], guard := none }) (v := ?v100) rfl (by kernel_rfl) (by kernel_rfl) (by kernel_rfl) (fun _ _ _ h => h) (Or.inl ⟨by rfl, ?hy100⟩) (by assumption) ?rest100
          case hy100 => (intro w hSw; (try dsimp only at hSw); go_simp; (try rw [if_pos (by omega)]); (try with_reducible rfl))
          simp only [Act.put, List.setIfInBounds_toArray, List.set_cons_zero, List.set_cons_succ]
          refine wpAnyH_take (i := 8) (oi := { dst := some 58, op := Op.binOp BinOp.or 3 (Operand.tmp 54) (Operand.tmp 57) 3, type := 3, pos := "packet.go:136", after := #[{ on := 4, ground := Ground.data }, { on := 7, ground := Ground.data }], guard := none }) (v := ?v101) rfl (by kernel_rfl) (by kernel_rfl) (by kernel_rfl) (fun _ _ _ h => h) (Or.inl ⟨by rfl, ?hy101⟩) (by assumption) ?rest101
          case hy101 => (intro w hSw; (try dsimp only at hSw); go_simp; (try rw [if_pos (by omega)]); (try with_reducible rfl))
          simp only [Act.put, List.setIfInBounds_toArray, List.set_cons_zero, List.set_cons_succ]
          refine wpAnyH_take (i := 9) (oi := { dst := some 59, op := Op.binOp BinOp.or 3 (Operand.tmp 50) (Operand.tmp 58) 3, type := 3, pos := "packet.go:136", after := #[{ on := 0, ground := Ground.data }, { on := 8, ground := Ground.data }], guard := none }) (v := ?v102) rfl (by kernel_rfl) (by kernel_rfl) (by kernel_rfl) (fun _ _ _ h => h) (Or.inl ⟨by rfl, ?hy102⟩) (by assumption) ?rest102
          case hy102 => (intro w hSw; (try dsimp only at hSw); go_simp; (try rw [if_pos (by omega)]); (try with_reducible rfl))
          simp only [Act.put, List.setIfInBounds_toArray, List.set_cons_zero, List.set_cons_succ]
          refine wpAnyH_ready (rs := [10]) (by kernel_rfl) (by simp) ?_
          refine AllReadyH.cons (o := { dst := some 2, op := Op.assign (Operand.tmp 59), type := 3, pos := "packet.go:136", after := #[{ on := 9, ground := Ground.data }, { on := 3, ground := Ground.chain }, { on := 0, ground := Ground.phase }, { on := 1, ground := Ground.phase }, { on := 2, ground := Ground.phase }, { on := 3, ground := Ground.phase }, { on := 4, ground := Ground.phase }, { on := 5, ground := Ground.phase }, { on := 6, ground := Ground.phase }, { on := 7, ground := Ground.phase }, { on := 8, ground := Ground.phase }, { on := 9, ground := Ground.phase }], guard := none }) rfl (fun K hK => ?_) AllReadyH.nil
          go_simp
          refine hK.out _ _ (by simp) (fun hHeld => ?_)
          clear hK K
          refine wpAnyH_done (by kernel_rfl) ?_ _
          refine NoPanic.normal ?_
          go_wp2
          go_roundw
          case rel => exact ⟨k + 1, mq u.qos, _, by omega, by go_num, rfl, rfl, hF, by show _ = _; rw [unhide HO2]; rfl, unhide HB2⟩
          case measure => simp [intOf]; omega
end Go.Proofs.YtgdfnopnmdjklaaGreatDoor.K
/- Proved here: a packet that lies in memory, loaded as one. Helpers. -/
namespace Go.Proofs.YtgdfnopnmdjklaaGreatDoor.K
open Go.RowKit
set_option maxRecDepth 100000

def Pkv.cells (p : Pkv) : List Value := [.int .i64 p.kind, .bool p.dup, .int .i64 p.qos, .bool p.retain, .string p.topic, .int .i64 p.id, .string p.payload, p.props.val, .string p.client, .bool p.clean, .int .i64 p.keep, p.wills.val, p.user.val, p.pass.val, .int .i64 p.code, .bool p.session, p.subs.val, p.filters.val, p.codes.val]
theorem Pk.range {w : World} {R : Nat} {q : Pkv} (h : Pk w R q) : w.rangeAt R 0 q.cells := by
  intro j v hj
  have hl : j < 19 := (List.getElem?_eq_some_iff.1 hj).1
  rw [Nat.zero_add, (h j hl).1, ← hj]
  match j, hl with
  | 0, _ => rfl
  | 1, _ => rfl
  | 2, _ => rfl
  | 3, _ => rfl
  | 4, _ => rfl
  | 5, _ => rfl
  | 6, _ => rfl
  | 7, _ => rfl
  | 8, _ => rfl
  | 9, _ => rfl
  | 10, _ => rfl
  | 11, _ => rfl
  | 12, _ => rfl
  | 13, _ => rfl
  | 14, _ => rfl
  | 15, _ => rfl
  | 16, _ => rfl
  | 17, _ => rfl
  | 18, _ => rfl
theorem packet_size : (Tryz.prog.info? 30).map (·.size) = some 19 := by kernel_rfl
theorem load_pk {w : World} {R : Nat} {q : Pkv} (h : Pk w R q) : (Instr.loadAt 30 (.pointer (some ⟨R, 0, none⟩))).run Tryz.prog w = .ok q.val w :=
  run_loadAt_mid w R 0 30 q.cells _ h.range Tryz.underlying30 rfl packet_size
theorem Pkv.ones (q : Pkv) : ∀ v ∈ q.cells, v.oneCell' = true := by
  intro v hv
  simp only [Pkv.cells, List.mem_cons, List.not_mem_nil, or_false] at hv
  rcases hv with rfl | rfl | rfl | rfl | rfl | rfl | rfl | rfl | rfl | rfl | rfl | rfl | rfl | rfl | rfl | rfl | rfl | rfl | rfl <;> rfl
theorem Pkv.ones' (q : Pkv) : q.cells.toArray.all (·.oneCell') = true := all_oneCell_toArray q.ones
theorem Pk.there {w : World} {R : Nat} {q : Pkv} (h : Pk w R q) (r : Pkv) : w.there R 0 r.cells.toArray.size := fun j hj => by
  have hj : j < 19 := hj
  rw [Nat.zero_add, (h j hj).1]
  exact ⟨rfl, (h j hj).2⟩
theorem cells_get (q : Pkv) (j : Nat) (hj : j < 19) : q.cells[j]? = some (q.cell j) := by
  match j, hj with
  | 0, _ => rfl
  | 1, _ => rfl
  | 2, _ => rfl
  | 3, _ => rfl
  | 4, _ => rfl
  | 5, _ => rfl
  | 6, _ => rfl
  | 7, _ => rfl
  | 8, _ => rfl
  | 9, _ => rfl
  | 10, _ => rfl
  | 11, _ => rfl
  | 12, _ => rfl
  | 13, _ => rfl
  | 14, _ => rfl
  | 15, _ => rfl
  | 16, _ => rfl
  | 17, _ => rfl
  | 18, _ => rfl
  | n + 19, h => exact absurd h (by omega)
/-- a packet stored over another one -/
theorem Pk.stored {w : World} {R : Nat} {q : Pkv} (h : Pk w R q) (r : Pkv) : Pk (w.setCells R 0 r.cells) R r := fun j hj => by
  have k := World.rangeAt_setCells_same w R 0 r.cells (h.there r) j _ (cells_get r j hj)
  rw [Nat.zero_add] at k
  exact ⟨k, by rw [World.frozen?_setCells]; exact (h j hj).2⟩
theorem setCells_below {w0 w : World} {B R o : Nat} {vs : List Value} (h : Below B w0 w) (hR : B ≤ R) : Below B w0 (w.setCells R o vs) := by
  induction vs generalizing w o with
  | nil => exact h
  | cons v vs ih =>
    rw [World.setCells]
    refine ih ?_
    exact ⟨h.os, h.tape, h.output, by simpa [World.setCell] using h.size, fun k hk => (Below.heap_setCell _ _ _ _ (by show k ≠ R; omega)).trans (h.block k hk)⟩
/-- a new block with a packet -/
theorem pk_new (w : World) (q : Pkv) : Pk (w.alloc (.cells q.cells.toArray 30)) w.heap.size q := fun j hj => by
  refine ⟨?_, by simp⟩
  have k := heap_alloc_new w (.cells q.cells.toArray 30)
  unfold World.cell?
  dsimp only
  rw [k]
  simpa using cells_get q j hj
/-- a return of a packet that lies in memory -/
theorem res_pk2 {fn : Func} {a t : Tmp} (h : fn.results = #[.cell a 30, .tmp t]) {tmps : Array Value} {w : World} {B : Nat} {q : Pkv} (ha : tmps[a]?.getD undef = .pointer (some ⟨B, 0, none⟩)) (hq : Pk w B q) : (results fn tmps).run Tryz.prog w = .ok (.tuple #[q.val, tmps[t]?.getD undef]) w := by
  have k := run_loadVar_mid (P := Tryz.prog) w B 0 30 q.cells _ hq.range Tryz.underlying30 rfl packet_size
  simp [results, h, ha, asAddr, k]
  rfl
theorem res_pk3 {fn : Func} {a t u : Tmp} (h : fn.results = #[.cell a 30, .tmp t, .tmp u]) {tmps : Array Value} {w : World} {B : Nat} {q : Pkv} (ha : tmps[a]?.getD undef = .pointer (some ⟨B, 0, none⟩)) (hq : Pk w B q) : (results fn tmps).run Tryz.prog w = .ok (.tuple #[q.val, tmps[t]?.getD undef, tmps[u]?.getD undef]) w := by
  have k := run_loadVar_mid (P := Tryz.prog) w B 0 30 q.cells _ hq.range Tryz.underlying30 rfl packet_size
  simp [results, h, ha, asAddr, k]
  rfl
end Go.Proofs.YtgdfnopnmdjklaaGreatDoor.K
/- Proved here: packet's reader: connectFlags. Helper contracts. -/
namespace Go.Proofs.YtgdfnopnmdjklaaGreatDoor.K
open Go.RowKit
set_option maxRecDepth 100000

theorem and2 (x : Int) (h0 : 0 ≤ x) (h1 : x ≤ 255) : (bits .and .i64 x 2 != 0) = btest x 2 := byte_cases (P := fun x => (bits .and .i64 x 2 != 0) = btest x 2) (by decide +kernel) x h0 h1
theorem and32 (x : Int) (h0 : 0 ≤ x) (h1 : x ≤ 255) : (bits .and .i64 x 32 != 0) = btest x 32 := byte_cases (P := fun x => (bits .and .i64 x 32 != 0) = btest x 32) (by decide +kernel) x h0 h1
theorem and64 (x : Int) (h0 : 0 ≤ x) (h1 : x ≤ 255) : (bits .and .i64 x 64 != 0) = btest x 64 := byte_cases (P := fun x => (bits .and .i64 x 64 != 0) = btest x 64) (by decide +kernel) x h0 h1
theorem and128 (x : Int) (h0 : 0 ≤ x) (h1 : x ≤ 255) : (bits .and .i64 x 128 != 0) = btest x 128 := byte_cases (P := fun x => (bits .and .i64 x 128 != 0) = btest x 128) (by decide +kernel) x h0 h1
theorem shq (x : Int) (h0 : 0 ≤ x) (h1 : x ≤ 255) : bits .and .i64 (x / 8) 3 = x / 8 % 4 := byte_cases (P := fun x => bits .and .i64 (x / 8) 3 = x / 8 % 4) (by decide +kernel) x h0 h1
theorem make_str (w : World) : (Instr.makeSlice 26 (.int .i64 1) (.int .i64 1)).run Tryz.prog w = .ok (.slice (some ⟨w.heap.size, 0, none⟩) 1 1) (w.alloc (.cells #[.string ⟨#[]⟩] 9)) := by kernel_rfl
/-- what the flags tell to come -/
def cws (x : Int) : List Wv := if btest x 4 then [⟨⟨#[]⟩, ⟨#[]⟩, x / 8 % 4, btest x 32, ⟨none, 0, 0⟩⟩] else []
def cfok (x : Int) : Bool := cok (btest x 128).toNat (btest x 64).toNat (cws x) && (cfl (btest x 128).toNat (btest x 64).toNat (btest x 2) (cws x) == x)
def flags? : List Int → Option (Int × List Int) := bindR one? fun x => bindR (mustR (cfok x)) fun _ => pureR x
def isW (V : Nat) (b : Bool) : Sl := if b then ⟨some ⟨V, 0, none⟩, 1, 1⟩ else ⟨none, 0, 0⟩
theorem al {w : World} (ob : Obj) : Below w.heap.size w (w.alloc ob) := (Below.refl _ _).alloc (Nat.le_refl _) _
/-- a room for what is to come, in a new block -/
def Rm (B R : Nat) (w : World) (b : Bool) (V : Nat) (ob : Obj) : Prop := B ≤ V ∧ V ≠ R ∧ (b = true → V < w.heap.size ∧ w.heap[V]? = some ob)
theorem Rm.bx {B R : Nat} {may : Nat → Prop} {w w' : World} {b : Bool} {V : Nat} {ob : Obj} (h : Rm B R w b V ob) (hx : BX R may w w') : Rm B R w' b V ob :=
  ⟨h.1, h.2.1, fun hb => ⟨Nat.lt_of_lt_of_le (h.2.2 hb).1 hx.size, (hx.block V (h.2.2 hb).1 h.2.1).trans (h.2.2 hb).2⟩⟩
theorem Rm.below {B R : Nat} {w w' : World} {b : Bool} {V : Nat} {ob : Obj} (h : Rm B R w b V ob) (hx : Below w.heap.size w w') : Rm B R w' b V ob :=
  ⟨h.1, h.2.1, fun hb => ⟨Nat.lt_of_lt_of_le (h.2.2 hb).1 hx.size, (hx.block V (h.2.2 hb).1).trans (h.2.2 hb).2⟩⟩
theorem Rm.new {B R : Nat} {w : World} (ob : Obj) (hB : B ≤ w.heap.size) (hR : R < w.heap.size) (b : Bool) (j : Nat) (u : Value) : Rm B R ((w.setCell ⟨R, j, none⟩ u).alloc ob) b w.heap.size ob := by
  have e : (w.setCell ⟨R, j, none⟩ u).heap.size = w.heap.size := by simp [World.setCell]
  refine ⟨hB, by omega, fun _ => ⟨by simp, ?_⟩⟩
  have k := heap_alloc_new (w.setCell ⟨R, j, none⟩ u) ob
  rw [e] at k
  exact k
theorem bx_set_al {R : Nat} {a b : World} (h : BX R isAny a b) (j : Nat) (u : Value) (ob : Obj) (hR : R < b.heap.size) : BX R isAny a ((b.setCell ⟨R, j, none⟩ u).alloc ob) := (h.set j u trivial).trans (BX.of_below (al _) (by simpa [World.setCell] using hR))
abbrev willO (x : Int) : Obj := .cells #[.string ⟨#[]⟩, .string ⟨#[]⟩, .int .i64 (x / 8 % 4), .bool (btest x 32), .slice none 0 0] 74
abbrev strO : Obj := .cells #[.string ⟨#[]⟩] 9
/-- rooms, in blocks of their own -/
structure Rooms (B R : Nat) (w : World) (x : Int) (V U Q : Nat) : Prop where
  v : Rm B R w (btest x 4) V (willO x)
  u : Rm B R w (btest x 128) U strO
  q : Rm B R w (btest x 64) Q strO
  vu : btest x 4 = true → btest x 128 = true → V ≠ U
  vq : btest x 4 = true → btest x 64 = true → V ≠ Q
  uq : btest x 128 = true → btest x 64 = true → U ≠ Q
def FlagsPost (w0 : World) (R : Nat) (p : Pkv) (st : Option (List Int)) (w : World) (e : Ending) (w' : World) : Prop :=
  e = .returned (.tuple #[]) ∧ ∃ (x : Int) (V U Q : Nat) (st' : Option (List Int)), (0 ≤ x ∧ x ≤ 255) ∧ Pk w' R { p with clean := btest x 2, wills := isW V (btest x 4), user := isW U (btest x 128), pass := isW Q (btest x 64) } ∧ Hid (Rooms w.heap.size R w' x V U Q) ∧ Stp flags? st x st' ∧ RS w0 w' R st' ∧ BX R isAny w w'
theorem Rw.of_new {w : World} {V : Nat} {u : Wv} {t : TypeId} (h : w.heap[V]? = some (.cells #[.string u.topic, .string u.payload, .int .i64 u.qos, .bool u.retain, u.props.val] t)) : Rw w ⟨some ⟨V, 0, none⟩, 1, 1⟩ 5 (wcs [u]) := by
  refine ⟨rfl, ⟨Nat.le_refl _, by unfold maxLen; simp⟩, .inr ⟨V, 0, rfl, fun j hj => ?_⟩⟩
  rw [show (wcs [u]).length = 5 from rfl] at hj
  match j, hj with
  | 0, _ => simp [World.cell?, h, wcs, Wv.cells]
  | 1, _ => simp [World.cell?, h, wcs, Wv.cells]
  | 2, _ => simp [World.cell?, h, wcs, Wv.cells]
  | 3, _ => simp [World.cell?, h, wcs, Wv.cells]
  | 4, _ => simp [World.cell?, h, wcs, Wv.cells]
theorem Rw.nil (w : World) : Rw w ⟨none, 0, 0⟩ 5 (wcs []) := ⟨rfl, ⟨Nat.le_refl _, Nat.zero_le _⟩, .inl rfl⟩
set_option maxHeartbeats 4000000 in
theorem rflags_any (R : Nat) (p : Pkv) (st : Option (List Int)) (w0 w : World) (h : RS w0 w R st) (hp : Pk w R p) (hn1 : p.wills = ⟨none, 0, 0⟩) (hn2 : p.user = ⟨none, 0, 0⟩) (hn3 : p.pass = ⟨none, 0, 0⟩) : Calls Tryz.prog 34 #[.pointer (some ⟨R, 0, none⟩)] w (FlagsPost w0 R p st w) := by
  have hlt := h.lt
  have HP := hide hp
  have HS := hide h
  have HN1 := hide hn1
  have HN2 := hide hn2
  have HN3 := hide hn3
  clear hp h hn1 hn2 hn3
  go_enter Tryz.func34, Tryz.ntmps34
  go_wp2_with fail
  refine wp_region_noPanic ?_
  refine wp_region_held_drew (S := (fun _ => True)) (by kernel_rfl) trivial (fun hHeld => ?_)
  refine wpAnyH_take (i := 0) (oi := { dst := some 8, op := Op.move (Operand.tmp 0), type := 53, pos := "read.go:66", after := #[], guard := none }) (v := ?v1) rfl (by kernel_rfl) (by kernel_rfl) (by kernel_rfl) (fun _ _ _ h => h) (Or.inl ⟨by rfl, ?hy1⟩) (by assumption) ?rest1
  case hy1 => (intro w hSw; (try dsimp only at hSw); go_simp; (try rw [if_pos (by omega)]); (try with_reducible rfl))
  simp only [Act.put, List.setIfInBounds_toArray, List.set_cons_zero, List.set_cons_succ]
  refine wpAnyH_take (i := 1) (oi := { dst := some 9, op := Op.nilCheck (Operand.tmp 8), type := 0, pos := "read.go:66", after := #[{ on := 0, ground := Ground.data }], guard := none }) (v := ?v2) rfl (by kernel_rfl) (by kernel_rfl) (by kernel_rfl) (fun _ _ _ h => h) (Or.inl ⟨by rfl, ?hy2⟩) (by assumption) ?rest2
  case hy2 => (intro w hSw; (try dsimp only at hSw); go_simp; (try rw [if_pos (by omega)]); (try with_reducible rfl))
  simp only [Act.put, List.setIfInBounds_toArray, List.set_cons_zero, List.set_cons_succ]
  refine wpAnyH_take (i := 2) (oi := { dst := some 10, op := Op.fieldAddr 46 (Operand.tmp 9) 0, type := 0, pos := "read.go:66", after := #[{ on := 1, ground := Ground.data }], guard := none }) (v := ?v3) rfl (by kernel_rfl) (by kernel_rfl) (by kernel_rfl) (fun _ _ _ h => h) (Or.inl ⟨by rfl, ?hy3⟩) (by assumption) ?rest3
  case hy3 => (intro w hSw; (try dsimp only at hSw); go_simp; (try rw [if_pos (by omega)]); (try with_reducible rfl))
  simp only [Act.put, List.setIfInBounds_toArray, List.set_cons_zero, List.set_cons_succ]
  refine wpAnyH_take (i := 3) (oi := { dst := some 11, op := Op.move (Operand.tmp 0), type := 53, pos := "read.go:66", after := #[], guard := none }) (v := ?v4) rfl (by kernel_rfl) (by kernel_rfl) (by kernel_rfl) (fun _ _ _ h => h) (Or.inl ⟨by rfl, ?hy4⟩) (by assumption) ?rest4
  case hy4 => (intro w hSw; (try dsimp only at hSw); go_simp; (try rw [if_pos (by omega)]); (try with_reducible rfl))
  simp only [Act.put, List.setIfInBounds_toArray, List.set_cons_zero, List.set_cons_succ]
  refine wpAnyH_ready (rs := [4]) (by kernel_rfl) (by simp) ?_
  refine AllReadyH.cons (o := { dst := some 12, op := Op.call { callee := Callee.value (Operand.func 19), args := #[Operand.tmp 11], argTypes := #[53] }, type := 3, pos := "read.go:66", after := #[{ on := 3, ground := Ground.data }], guard := none }) rfl (fun K hK => ?_) AllReadyH.nil
  go_simp
  refine (one_any R st w0 _ ((unhide HS).below (bel_drew w))).mono ?_
  rintro e w1 ⟨x, st1, rfl, hx, hs1, h1, hx1⟩
  refine hK.out _ _ trivial (fun hHeld => ?_)
  clear hK K
  refine wpAnyH_ready (rs := [5]) (by kernel_rfl) (by simp) ?_
  refine AllReadyH.cons (o := { dst := some 2, op := Op.assign (Operand.tmp 10), type := 54, pos := "read.go:66", after := #[{ on := 2, ground := Ground.data }, { on := 4, ground := Ground.chain }, { on := 0, ground := Ground.phase }, { on := 1, ground := Ground.phase }, { on := 2, ground := Ground.phase }, { on := 3, ground := Ground.textOnly Departure.lateStores }, { on := 4, ground := Ground.textOnly Departure.lateStoresUnsure }], guard := none }) rfl (fun K hK => ?_) AllReadyH.nil
  go_simp
  refine hK.out _ _ trivial (fun hHeld => ?_)
  clear hK K
  refine wpAnyH_ready (rs := [6]) (by kernel_rfl) (by simp) ?_
  refine AllReadyH.cons (o := { dst := some 3, op := Op.assign (Operand.tmp 12), type := 3, pos := "read.go:66", after := #[{ on := 4, ground := Ground.data }, { on := 5, ground := Ground.chain }, { on := 0, ground := Ground.phase }, { on := 1, ground := Ground.phase }, { on := 2, ground := Ground.phase }, { on := 3, ground := Ground.phase }, { on := 4, ground := Ground.phase }, { on := 5, ground := Ground.phase }], guard := none }) rfl (fun K hK => ?_) AllReadyH.nil
  go_simp
  refine hK.out _ _ trivial (fun hHeld => ?_)
  clear hK K
  refine wpAnyH_done (by kernel_rfl) ?_ _
  refine NoPanic.normal ?_
  have hp1 := ((unhide HP).below (bel_drew w)).bx hx1
  have c9 := hp1.clean
  have f9 := hp1.clean_f
  have c11 := hp1.wills
  have f11 := hp1.wills_f
  have hlt1 : R < w1.heap.size := Nat.lt_of_lt_of_le hlt hx1.size
  have hwl : w.heap.size ≤ w1.heap.size := hx1.size
  have HP1 := hide (hp1.set_clean (btest x 2))
  have HS1 := hide (h1.set 9 (.bool (btest x 2)) (by decide))
  have HX1 : Hid (BX R isAny w (w1.setCell ⟨R, 9, none⟩ (.bool (btest x 2)))) := (((BX.of_below (bel_drew w) hlt).trans hx1).any).set 9 _ trivial
  have HST1 := hide hs1
  have b2 := and2 x hx.1 hx.2
  have b4 := and4 x hx.1 hx.2
  have b32 := and32 x hx.1 hx.2
  have b64 := and64 x hx.1 hx.2
  have b128 := and128 x hx.1 hx.2
  have b3 := shq x hx.1 hx.2
  rw [unhide HN1] at c11
  clear hp1 h1 hx1 hs1 hHeld
  go_upto_if 21 with fail
  go_cut [] from 4 (fun wx => ∃ V, Hid (RS w0 wx R st1) ∧ Hid (Pk wx R { p with clean := btest x 2, wills := isW V (btest x 4) }) ∧ Hid (BX R isAny w wx) ∧ Hid (Rm w.heap.size R wx (btest x 4) V (willO x)))
  case first =>
    cases h4 : btest x 4
    · rw [h4] at b4
      go_wp2
      go_meet
      case rel =>
        rw [h4]
        refine ⟨w1.heap.size, HS1, ?_, HX1, ⟨hwl, by omega, fun h => by cases h⟩⟩
        have e : { p with clean := btest x 2, wills := isW w1.heap.size false } = { p with clean := btest x 2 } := by rw [show isW w1.heap.size false = p.wills from (unhide HN1).symm]
        show Pk _ _ _
        rw [e]
        exact unhide HP1
    · rw [h4] at b4
      go_wp2
      go_meet
      case rel =>
        rw [h4]
        refine ⟨w1.heap.size, ((unhide HS1).set 11 _ (by decide)).below (al _), ((unhide HP1).set_wills ⟨some ⟨w1.heap.size, 0, none⟩, 1, 1⟩).below (al _), bx_set_al (unhide HX1) 11 _ _ (by simpa [World.setCell] using hlt1), ?_⟩
        have k := Rm.new (B := w.heap.size) (R := R) (w := w1.setCell ⟨R, 9, none⟩ (.bool (btest x 2))) (willO x) (by simpa [World.setCell] using hwl) (by simpa [World.setCell] using hlt1) true 11 (.slice (some ⟨w1.heap.size, 0, none⟩) 1 1)
        rw [show (w1.setCell ⟨R, 9, none⟩ (.bool (btest x 2))).heap.size = w1.heap.size from by simp [World.setCell]] at k
        exact k
  case rest =>
  obtain ⟨V, HS2, HP2, HX2, HV⟩ := hcut
  obtain ⟨w2, hw2⟩ : ∃ w2, w2 = wc := ⟨wc, rfl⟩
  subst hw2
  clear HP1 HS1 HX1 hlt1 hwl c9 f9 c11 f11
  have c12 := (unhide HP2).user
  have f12 := (unhide HP2).user_f
  simp only at c12
  rw [unhide HN2] at c12
  have hlt2 : R < w2.heap.size := (unhide HS2).lt
  have hwl2 : w.heap.size ≤ w2.heap.size := (unhide HX2).size
  have hmk := make_str
  go_upto_if 37 with fail
  go_cut [] from 4 (fun wx => ∃ U, Hid (RS w0 wx R st1) ∧ Hid (Pk wx R { p with clean := btest x 2, wills := isW V (btest x 4), user := isW U (btest x 128) }) ∧ Hid (BX R isAny w wx) ∧ Hid (Rm w.heap.size R wx (btest x 4) V (willO x)) ∧ Hid (Rm w.heap.size R wx (btest x 128) U strO) ∧ Hid ((btest x 4 = true → btest x 128 = true → V ≠ U)))
  case first =>
    cases hb : btest x 128
    · rw [hb] at b128
      go_wp2
      go_meet
      case rel =>
        refine ⟨w2.heap.size, HS2, ?_, HX2, HV, ⟨hwl2, by omega, fun h => by rw [hb] at h; cases h⟩, fun _ h => by rw [hb] at h; cases h⟩
        have e : ({ p with clean := btest x 2, wills := isW V (btest x 4), user := isW w2.heap.size (btest x 128) } : Pkv) = { p with clean := btest x 2, wills := isW V (btest x 4) } := by rw [hb, show isW w2.heap.size false = p.user from (unhide HN2).symm]
        show Pk _ _ _
        rw [e]
        exact unhide HP2
    · rw [hb] at b128
      go_wp2
      go_meet
      case rel =>
        refine ⟨w2.heap.size, ((unhide HS2).set 12 _ (by decide)).below (al _), ?_, bx_set_al (unhide HX2) 12 _ _ hlt2, (unhide HV).bx (bx_set_al (BX.refl R isAny w2) 12 _ _ hlt2), Rm.new strO hwl2 hlt2 _ 12 _, fun h _ => by have := ((unhide HV).2.2 h).1; omega⟩
        rw [hb]
        exact ((unhide HP2).set_user ⟨some ⟨w2.heap.size, 0, none⟩, 1, 1⟩).below (al _)
  case rest =>
  obtain ⟨U, HS3, HP3, HX3, HV', HU, HVU⟩ := hcut
  obtain ⟨w3, hw3⟩ : ∃ w3, w3 = wc := ⟨wc, rfl⟩
  subst hw3
  clear HP2 HS2 HX2 hlt2 hwl2 c12 f12 HV
  have HV := HV'
  clear HV'
  have c13 := (unhide HP3).pass
  have f13 := (unhide HP3).pass_f
  simp only at c13
  rw [unhide HN3] at c13
  have hlt3 : R < w3.heap.size := (unhide HS3).lt
  have hwl3 : w.heap.size ≤ w3.heap.size := (unhide HX3).size
  have hmk := make_str
  go_upto_if 44 with fail
  go_cut [] from 4 (fun wx => ∃ Q, Hid (RS w0 wx R st1) ∧ Hid (Pk wx R { p with clean := btest x 2, wills := isW V (btest x 4), user := isW U (btest x 128), pass := isW Q (btest x 64) }) ∧ Hid (BX R isAny w wx) ∧ Hid (Rm w.heap.size R wx (btest x 4) V (willO x)) ∧ Hid (Rm w.heap.size R wx (btest x 128) U strO) ∧ Hid (Rm w.heap.size R wx (btest x 64) Q strO) ∧ Hid ((btest x 4 = true → btest x 64 = true → V ≠ Q) ∧ (btest x 128 = true → btest x 64 = true → U ≠ Q)))
  case first =>
    cases hb : btest x 64
    · rw [hb] at b64
      go_wp2
      go_meet
      case rel =>
        refine ⟨w3.heap.size, HS3, ?_, HX3, HV, HU, ⟨hwl3, by omega, fun h => by rw [hb] at h; cases h⟩, ⟨(fun _ h => by rw [hb] at h; cases h), (fun _ h => by rw [hb] at h; cases h)⟩⟩
        have e : ({ p with clean := btest x 2, wills := isW V (btest x 4), user := isW U (btest x 128), pass := isW w3.heap.size (btest x 64) } : Pkv) = { p with clean := btest x 2, wills := isW V (btest x 4), user := isW U (btest x 128) } := by rw [hb, show isW w3.heap.size false = p.pass from (unhide HN3).symm]
        show Pk _ _ _
        rw [e]
        exact unhide HP3
    · rw [hb] at b64
      go_wp2
      go_meet
      case rel =>
        refine ⟨w3.heap.size, ((unhide HS3).set 13 _ (by decide)).below (al _), ?_, bx_set_al (unhide HX3) 13 _ _ hlt3, (unhide HV).bx (bx_set_al (BX.refl R isAny w3) 13 _ _ hlt3), (unhide HU).bx (bx_set_al (BX.refl R isAny w3) 13 _ _ hlt3), Rm.new strO hwl3 hlt3 _ 13 _, ⟨(fun h _ => by have := ((unhide HV).2.2 h).1; omega), (fun h _ => by have := ((unhide HU).2.2 h).1; omega)⟩⟩
        rw [hb]
        exact ((unhide HP3).set_pass ⟨some ⟨w3.heap.size, 0, none⟩, 1, 1⟩).below (al _)
  case rest =>
  obtain ⟨Q, HS4, HP4, HX4, HV', HU', HQ, HVQ⟩ := hcut
  obtain ⟨w4, hw4⟩ : ∃ w4, w4 = wc := ⟨wc, rfl⟩
  subst hw4
  clear HP3 HS3 HX3 hlt3 hwl3 c13 f13 HV HU
  obtain ⟨q, hq⟩ : ∃ q : Pkv, q = { p with clean := btest x 2, wills := isW V (btest x 4), user := isW U (btest x 128), pass := isW Q (btest x 64) } := ⟨_, rfl⟩
  have HP5 : Hid (Pk w4 R q) := by rw [hq]; exact HP4
  have HRW : Hid (Rw w4 q.wills 5 (wcs (cws x))) := by
    show Rw _ _ _ _
    rw [hq]
    unfold cws
    cases h4 : btest x 4
    · exact Rw.nil _
    · have k := ((unhide HV').2.2 h4).2
      exact Rw.of_new (u := ⟨⟨#[]⟩, ⟨#[]⟩, x / 8 % 4, btest x 32, ⟨none, 0, 0⟩⟩) k
  have hun : q.user.n = (btest x 128).toNat := by rw [hq]; cases btest x 128 <;> rfl
  have hpn : q.pass.n = (btest x 64).toNat := by rw [hq]; cases btest x 64 <;> rfl
  have hcl : q.clean = btest x 2 := by rw [hq]
  have HCF : Hid (cfok x = (cok q.user.n q.pass.n (cws x) && (cfl q.user.n q.pass.n q.clean (cws x) == x))) := by show _ = _; rw [hun, hpn, hcl]; rfl
  have hu1 : q.user.n ≤ maxLen := by rw [hun]; cases btest x 128 <;> simp [maxLen]
  have hp1 : q.pass.n ≤ maxLen := by rw [hpn]; cases btest x 64 <;> simp [maxLen]
  have HQ5 := hide hq
  clear hq hun hpn hcl
  have HCC := hide (connectFlags_any q (cws x) w4 (unhide HRW) hu1 hp1)
  generalize cfl q.user.n q.pass.n q.clean (cws x) = fl at HCF HCC
  generalize cok q.user.n q.pass.n (cws x) = bo at HCF HCC
  clear hu1 hp1
  go_upto_region 9 with fail
  iterate 7 go_step
  refine wpList_load_mid rfl 30 _ rfl R 0 rfl q.cells _ (unhide HP5).range Tryz.underlying30 rfl packet_size ?_
  simp only [Act.put, List.setIfInBounds_toArray, List.set_cons_zero, List.set_cons_succ]
  go_wp2_with fail
  refine (unhide HCC).mono ?_
  rintro e w5 ⟨rfl, hb5⟩
  have HB5 := hide hb5
  have HS5 := hide ((unhide HS4).below hb5)
  clear hb5
  cases bo
  · go_wp2_with fail
    refine (must_any R _ st1 w0 w5 (unhide HS5)).mono ?_
    rintro e w6 ⟨rfl, h6, hx6⟩
    have HS6 := hide h6
    have HX6 := hide hx6
    clear h6 hx6
    go_wp2
    go_end0
    refine ⟨rfl, x, V, U, Q, _, hx, ((unhide HP4).below (unhide HB5)).bx (unhide HX6), ⟨((unhide HV').below (unhide HB5)).bx (unhide HX6), ((unhide HU').below (unhide HB5)).bx (unhide HX6), ((unhide HQ).below (unhide HB5)).bx (unhide HX6), unhide HVU, (unhide HVQ).1, (unhide HVQ).2⟩, ?_, unhide HS6, ((unhide HX4).trans (BX.of_below (unhide HB5) (unhide HS4).lt)).trans (unhide HX6).any⟩
    refine (unhide HST1).bind ((?_ : Stp (mustR (cfok x)) st1 () (if false then st1 else none)).bind (Stp.pure _ _))
    rw [unhide HCF]
    exact Stp.must _ _
  · go_wp2_with fail
    refine (must_any R _ st1 w0 w5 (unhide HS5)).mono ?_
    rintro e w6 ⟨rfl, h6, hx6⟩
    have HS6 := hide h6
    have HX6 := hide hx6
    clear h6 hx6
    go_wp2
    go_end0
    refine ⟨rfl, x, V, U, Q, _, hx, ((unhide HP4).below (unhide HB5)).bx (unhide HX6), ⟨((unhide HV').below (unhide HB5)).bx (unhide HX6), ((unhide HU').below (unhide HB5)).bx (unhide HX6), ((unhide HQ).below (unhide HB5)).bx (unhide HX6), unhide HVU, (unhide HVQ).1, (unhide HVQ).2⟩, ?_, unhide HS6, ((unhide HX4).trans (BX.of_below (unhide HB5) (unhide HS4).lt)).trans (unhide HX6).any⟩
    refine (unhide HST1).bind ((?_ : Stp (mustR (cfok x)) st1 () (if (fl == x) then st1 else none)).bind (Stp.pure _ _))
    rw [unhide HCF]
    exact Stp.must _ _
end Go.Proofs.YtgdfnopnmdjklaaGreatDoor.K
/- Proved here: what packet's reader needs for connect: rooms in memory. Helpers. -/
namespace Go.Proofs.YtgdfnopnmdjklaaGreatDoor.K
open Go.RowKit
set_option maxRecDepth 100000

def will? (x : Int) : List Int → Option (Option (List Pr × ByteArray × ByteArray) × List Int) := if btest x 4 then bindR (props? 16) fun q => bindR text? fun t => bindR bin? fun y => pureR (some (q, t, y)) else pureR none
def user? (x : Int) : List Int → Option (Option ByteArray × List Int) := if btest x 128 then bindR text? fun t => pureR (some t) else pureR none
def pass? (x : Int) : List Int → Option (Option ByteArray × List Int) := if btest x 64 then bindR bin? fun t => pureR (some t) else pureR none
/-- what a Connect tells: its flags, Keep, Props, Client, a will, a user, a password -/
structure Cn where
  x : Int
  keep : Int
  props : List Pr
  client : ByteArray
  will : Option (List Pr × ByteArray × ByteArray)
  user : Option ByteArray
  pass : Option ByteArray
def isMQTT (m : ByteArray) : Bool := m.toList == [77, 81, 84, 84]
def connect? : List Int → Option (Cn × List Int) :=
  bindR text? fun m => bindR (mustR (isMQTT m)) fun _ => bindR one? fun v => bindR (mustR (v == 5)) fun _ => bindR flags? fun x => bindR two? fun k => bindR (props? 1) fun pr => bindR text? fun c =>
    bindR (will? x) fun wl => bindR (user? x) fun us => bindR (pass? x) fun pa => pureR ⟨x, k, pr, c, wl, us, pa⟩
/-- the will lies in its room; its properties lie in a row of their own, at N or behind -/
def WillAt (B N R : Nat) (w : World) (x : Int) (V : Nat) (wl : Option (List Pr × ByteArray × ByteArray)) : Prop :=
  (btest x 4 = false → wl = none) ∧ (btest x 4 = true → ∃ q t y tq, wl = some (q, t, y) ∧ B ≤ V ∧ V ≠ R ∧ V < w.heap.size ∧ w.heap[V]? = some (.cells #[.string t, .string y, .int .i64 (x / 8 % 4), .bool (btest x 32), Sl.val tq] 74) ∧ w.ownsRow N 147 4 tq.val q.length (pcs q))
/-- a text lies in its room -/
def StrAt (B R : Nat) (w : World) (b : Bool) (U : Nat) (us : Option ByteArray) : Prop :=
  (b = false → us = none) ∧ (b = true → ∃ t, us = some t ∧ B ≤ U ∧ U ≠ R ∧ U < w.heap.size ∧ w.heap[U]? = some (.cells #[.string t] 9))
theorem StrAt.bx {B R : Nat} {may : Nat → Prop} {w w' : World} {b : Bool} {U : Nat} {us : Option ByteArray} (h : StrAt B R w b U us) (hx : BX R may w w') : StrAt B R w' b U us :=
  ⟨h.1, fun hb => by
    obtain ⟨t, h1, h2, h3, h4, h5⟩ := h.2 hb
    exact ⟨t, h1, h2, h3, Nat.lt_of_lt_of_le h4 hx.size, (hx.block U h4 h3).trans h5⟩⟩
theorem owns_out {w : World} {V j : Nat} {u : Value} {B : Nat} {e : TypeId} {s : Nat} {v : Value} {n : Nat} {xs : List Value} (h : w.ownsRow B e s v n xs) (hV : V < B) : (w.setCell ⟨V, j, none⟩ u).ownsRow B e s v n xs := by
  refine ⟨h.1, ?_⟩
  rcases h.2 with h1 | ⟨g, cap, cur, hv, hB, hg, rest⟩
  · exact .inl h1
  · exact .inr ⟨g, cap, cur, hv, hB, by rw [Below.heap_setCell _ _ _ _ (by show g ≠ V; omega)]; exact hg, rest⟩
theorem WillAt.bx {B N R : Nat} {may : Nat → Prop} {w w' : World} {x : Int} {V : Nat} {wl : Option (List Pr × ByteArray × ByteArray)} (h : WillAt B N R w x V wl) (hx : BX R may w w') (hR : R < N) : WillAt B N R w' x V wl :=
  ⟨h.1, fun hb => by
    obtain ⟨q, t, y, tq, h1, h2, h3, h4, h5, h6⟩ := h.2 hb
    exact ⟨q, t, y, tq, h1, h2, h3, Nat.lt_of_lt_of_le h4 hx.size, (hx.block V h4 h3).trans h5, owns_bx h6 hx hR⟩⟩
theorem WillAt.out {B N R : Nat} {w : World} {x : Int} {V U j : Nat} {u : Value} {wl : Option (List Pr × ByteArray × ByteArray)} (h : WillAt B N R w x V wl) (hU : btest x 4 = true → V ≠ U) (hN : U < N) : WillAt B N R (w.setCell ⟨U, j, none⟩ u) x V wl :=
  ⟨h.1, fun hb => by
    obtain ⟨q, t, y, tq, h1, h2, h3, h4, h5, h6⟩ := h.2 hb
    exact ⟨q, t, y, tq, h1, h2, h3, by simpa [World.setCell] using h4, (Below.heap_setCell _ _ _ _ (hU hb)).trans h5, owns_out h6 hN⟩⟩
theorem StrAt.out {B R : Nat} {w : World} {b : Bool} {U V j : Nat} {u : Value} {us : Option ByteArray} (h : StrAt B R w b U us) (hV : b = true → U ≠ V) : StrAt B R (w.setCell ⟨V, j, none⟩ u) b U us :=
  ⟨h.1, fun hb => by
    obtain ⟨t, h1, h2, h3, h4, h5⟩ := h.2 hb
    exact ⟨t, h1, h2, h3, by simpa [World.setCell] using h4, (Below.heap_setCell _ _ _ _ (hV hb)).trans h5⟩⟩
theorem Rm.out {B R : Nat} {w : World} {b : Bool} {U V j : Nat} {u : Value} {ob : Obj} (h : Rm B R w b U ob) (hV : b = true → U ≠ V) : Rm B R (w.setCell ⟨V, j, none⟩ u) b U ob :=
  ⟨h.1, h.2.1, fun hb => ⟨by simpa [World.setCell] using (h.2.2 hb).1, (Below.heap_setCell _ _ _ _ (hV hb)).trans (h.2.2 hb).2⟩⟩
theorem WillAt.base {B B' N R : Nat} {w : World} {x : Int} {V : Nat} {wl : Option (List Pr × ByteArray × ByteArray)} (h : WillAt B N R w x V wl) (hB : B' ≤ B) : WillAt B' N R w x V wl :=
  ⟨h.1, fun hb => by
    obtain ⟨q, t, y, tq, h1, h2, h3⟩ := h.2 hb
    exact ⟨q, t, y, tq, h1, Nat.le_trans hB h2, h3⟩⟩
theorem StrAt.base {B B' R : Nat} {w : World} {b : Bool} {U : Nat} {us : Option ByteArray} (h : StrAt B R w b U us) (hB : B' ≤ B) : StrAt B' R w b U us :=
  ⟨h.1, fun hb => by
    obtain ⟨t, h1, h2, h3⟩ := h.2 hb
    exact ⟨t, h1, Nat.le_trans hB h2, h3⟩⟩
theorem pk_out {w : World} {R V j : Nat} {u : Value} {p : Pkv} (h : Pk w R p) (hV : V ≠ R) : Pk (w.setCell ⟨V, j, none⟩ u) R p := fun i hi =>
  ⟨(World.cell?_setCell_other _ _ _ _ (fun e => by injection e with e1 _; exact hV e1)).trans (h i hi).1, by simpa using (h i hi).2⟩
theorem heap_set {w : World} {V j : Nat} {u : Value} {c : Array Value} {t : TypeId} (h : w.heap[V]? = some (.cells c t)) : (w.setCell ⟨V, j, none⟩ u).heap[V]? = some (.cells (c.setIfInBounds j u) t) := by
  unfold World.setCell
  simp [Array.getElem?_modify, h]
end Go.Proofs.YtgdfnopnmdjklaaGreatDoor.K
/- Proved here: packet's reader: connect. Helper contracts. -/
namespace Go.Proofs.YtgdfnopnmdjklaaGreatDoor.K
open Go.RowKit
set_option maxRecDepth 100000

def ConnPost (w0 : World) (R : Nat) (p : Pkv) (st : Option (List Int)) (w : World) (e : Ending) (w' : World) : Prop :=
  e = .returned (.tuple #[]) ∧ ∃ (n : Cn) (V U Q N : Nat) (tp : Sl) (st' : Option (List Int)), Pk w' R { p with clean := btest n.x 2, wills := isW V (btest n.x 4), user := isW U (btest n.x 128), pass := isW Q (btest n.x 64), keep := n.keep, props := tp, client := n.client } ∧ Hid (w'.ownsRow w.heap.size 147 4 tp.val n.props.length (pcs n.props)) ∧ w.heap.size ≤ N ∧ Hid (WillAt w.heap.size N R w' n.x V n.will) ∧ Hid (StrAt w.heap.size R w' (btest n.x 128) U n.user) ∧ Hid (StrAt w.heap.size R w' (btest n.x 64) Q n.pass) ∧ Stp connect? st n st' ∧ RS w0 w' R st' ∧ BX R isAny w w'
set_option maxHeartbeats 8000000 in
theorem connect_any (R : Nat) (p : Pkv) (st : Option (List Int)) (w0 w : World) (h : RS w0 w R st) (hp : Pk w R p) (hk : p.kind = 1) (hn1 : p.wills = ⟨none, 0, 0⟩) (hn2 : p.user = ⟨none, 0, 0⟩) (hn3 : p.pass = ⟨none, 0, 0⟩) : Calls Tryz.prog 18 #[.pointer (some ⟨R, 0, none⟩)] w (ConnPost w0 R p st w) := by
  have hlt := h.lt
  have HP := hide hp
  have HS := hide h
  have HK := hide hk
  have HN1 := hide hn1
  have HN2 := hide hn2
  have HN3 := hide hn3
  clear hp h hk hn1 hn2 hn3
  go_enter Tryz.func18, Tryz.ntmps18
  go_wp2_with fail
  refine (text_any R st w0 w (unhide HS)).mono ?_
  rintro e w1 ⟨m, st1, rfl, -, hs1, h1, hx1⟩
  have HS1 := hide h1
  have HX1 := hide hx1
  have HST1 := hide hs1
  clear h1 hx1 hs1
  go_wp2_with fail
  refine (must_any R _ st1 w0 w1 (unhide HS1)).mono ?_
  rintro e w2 ⟨rfl, h2, hx2⟩
  have HS2 := hide h2
  have HX2 : Hid (BX R isRE w w2) := (unhide HX1).trans hx2
  clear h2 hx2 HX1 HS1
  go_wp2_with fail
  refine (one_any R _ w0 w2 (unhide HS2)).mono ?_
  rintro e w3 ⟨v, st3, rfl, -, hs3, h3, hx3⟩
  have HS3 := hide h3
  have HX3 : Hid (BX R isRE w w3) := (unhide HX2).trans hx3
  have HST3 := hide hs3
  clear h3 hx3 hs3 HX2 HS2
  go_wp2_with fail
  refine (must_any R _ st3 w0 w3 (unhide HS3)).mono ?_
  rintro e w4 ⟨rfl, h4, hx4⟩
  have HX4 : Hid (BX R isRE w w4) := (unhide HX3).trans hx4
  have HP4 := hide ((unhide HP).bx (unhide HX4))
  have HS4 := hide h4
  clear h4 hx4 HX3 HS3
  go_wp2_with fail
  refine (rflags_any R p _ w0 w4 (unhide HS4) (unhide HP4) (unhide HN1) (unhide HN2) (unhide HN3)).mono ?_
  rintro e w5 ⟨rfl, x, V, U, Q, st5, hx, hp5, hR5, hs5, h5, hx5⟩
  have HX5 : Hid (BX R isAny w w5) := (unhide HX4).any.trans hx5
  have hsz4 : w.heap.size ≤ w4.heap.size := (unhide HX4).size
  have hsz45 : w4.heap.size ≤ w5.heap.size := hx5.size
  have HS5 := hide h5
  have HP5 := hide hp5
  have HST5 := hide hs5
  clear h5 hx5 hs5 hp5 HX4 HS4 HP4
  go_wp2_with fail
  refine (two_any R st5 w0 w5 (unhide HS5)).mono ?_
  rintro e w6 ⟨k, st6, rfl, hk6, hs6, h6, hx6⟩
  have hp6 := (unhide HP5).bx hx6
  have c10 := hp6.keep
  have f10 := hp6.keep_f
  have HP6 := hide (hp6.set_keep k)
  have HS6 := hide (h6.set 10 (.int .i64 k) (by decide))
  have HX6 : Hid (BX R isAny w (w6.setCell ⟨R, 10, none⟩ (.int .i64 k))) := ((unhide HX5).trans hx6.any).set 10 _ trivial
  have HXR6 : Hid (BX R isAny w5 (w6.setCell ⟨R, 10, none⟩ (.int .i64 k))) := (hx6.any).set 10 _ trivial
  have HST6 := hide hs6
  have c0 : w6.cell? ⟨R, 0, none⟩ = some (.int .i64 1) := hp6.kind.trans (congrArg (fun z => some (Value.int .i64 z)) (unhide HK))
  clear h6 hx6 hs6 hp6 HX5 HS5 HP5 hk6
  go_wp2_with fail
  refine (props_any R 1 st6 w0 _ (unhide HS6)).mono ?_
  rintro e w7 ⟨tp, pr, st7, rfl, hO7, hs7, h7, hx7⟩
  have hp7 := (unhide HP6).bx hx7
  have c7 := hp7.props
  have f7 := hp7.props_f
  have HP7 := hide (hp7.set_props tp)
  have HS7 := hide (h7.set 7 tp.val (by decide))
  have HX7 : Hid (BX R isAny w (w7.setCell ⟨R, 7, none⟩ tp.val)) := ((unhide HX6).trans hx7.any).set 7 _ trivial
  have HXR7 : Hid (BX R isAny w5 (w7.setCell ⟨R, 7, none⟩ tp.val)) := ((unhide HXR6).trans hx7.any).set 7 _ trivial
  obtain ⟨M, hM⟩ : ∃ M, M = (w6.setCell ⟨R, 10, none⟩ (.int .i64 k)).heap.size := ⟨_, rfl⟩
  have hM0 : w.heap.size ≤ M := by rw [hM]; exact (unhide HX6).size
  have hM5 : w5.heap.size ≤ M := by rw [hM]; exact (unhide HXR6).size
  rw [← hM] at hO7
  have HO7 : Hid ((w7.setCell ⟨R, 7, none⟩ tp.val).ownsRow M 147 4 tp.val pr.length (pcs pr)) := owns_bx (unhide hO7) ((BX.refl R isAny w7).set 7 _ trivial) (Nat.lt_of_lt_of_le hlt hM0)
  have hM7 : M ≤ (w7.setCell ⟨R, 7, none⟩ tp.val).heap.size := by rw [hM]; simpa [World.setCell] using hx7.size
  clear hM
  have HST7 := hide hs7
  clear h7 hx7 hs7 hp7 hO7 HX6 HS6 HP6 HXR6 c10 f10 c0
  go_wp2_with fail
  refine (text_any R st7 w0 _ (unhide HS7)).mono ?_
  rintro e w8 ⟨c, st8, rfl, -, hs8, h8, hx8⟩
  have hp8 := (unhide HP7).bx hx8
  have c8 := hp8.client
  have f8 := hp8.client_f
  have HP8 : Hid (Pk (w8.setCell ⟨R, 8, none⟩ (.string c)) R { p with clean := btest x 2, wills := isW V (btest x 4), user := isW U (btest x 128), pass := isW Q (btest x 64), keep := k, props := tp, client := c }) := hp8.set_client c
  have HS8 := hide (h8.set 8 (.string c) (by decide))
  have HX8 : Hid (BX R isAny w (w8.setCell ⟨R, 8, none⟩ (.string c))) := ((unhide HX7).trans hx8.any).set 8 _ trivial
  have HXR8 : BX R isAny w5 (w8.setCell ⟨R, 8, none⟩ (.string c)) := ((unhide HXR7).trans hx8.any).set 8 _ trivial
  have HV8 : Hid (Rm w4.heap.size R (w8.setCell ⟨R, 8, none⟩ (.string c)) (btest x 4) V (willO x)) := (unhide hR5).v.bx HXR8
  have HU8 : Hid (Rm w4.heap.size R (w8.setCell ⟨R, 8, none⟩ (.string c)) (btest x 128) U strO) := (unhide hR5).u.bx HXR8
  have HQ8 : Hid (Rm w4.heap.size R (w8.setCell ⟨R, 8, none⟩ (.string c)) (btest x 64) Q strO) := (unhide hR5).q.bx HXR8
  have HNE := hide (And.intro (unhide hR5).vu (And.intro (unhide hR5).vq (unhide hR5).uq))
  have HO8 : Hid ((w8.setCell ⟨R, 8, none⟩ (.string c)).ownsRow M 147 4 tp.val pr.length (pcs pr)) := owns_bx (unhide HO7) ((hx8.any).set 8 _ trivial) (Nat.lt_of_lt_of_le hlt hM0)
  have HVM : Hid ((btest x 4 = true → V < M) ∧ (btest x 128 = true → U < M) ∧ (btest x 64 = true → Q < M)) := ⟨fun h => Nat.lt_of_lt_of_le ((unhide hR5).v.2.2 h).1 hM5, fun h => Nat.lt_of_lt_of_le ((unhide hR5).u.2.2 h).1 hM5, fun h => Nat.lt_of_lt_of_le ((unhide hR5).q.2.2 h).1 hM5⟩
  have HST8 : Hid (∀ wl us pa st9 st10 st11, Stp (will? x) st8 wl st9 → Stp (user? x) st9 us st10 → Stp (pass? x) st10 pa st11 → Stp connect? st ⟨x, k, pr, c, wl, us, pa⟩ st11) := fun wl us pa st9 st10 st11 k1 k2 k3 =>
    (unhide HST1).bind ((Stp.must _ st1).bind ((unhide HST3).bind ((Stp.must _ st3).bind ((unhide HST5).bind ((unhide HST6).bind ((unhide HST7).bind (hs8.bind (k1.bind (k2.bind (k3.bind (Stp.pure _ _)))))))))))
  have HX8s : Hid (w4.heap.size ≤ (w8.setCell ⟨R, 8, none⟩ (.string c)).heap.size) := Nat.le_trans hsz45 HXR8.size
  have HM8 : Hid (M ≤ (w8.setCell ⟨R, 8, none⟩ (.string c)).heap.size) := Nat.le_trans hM7 (by simpa [World.setCell] using hx8.size)
  clear h8 hx8 hs8 hp8 hR5 HO7 HX7 HS7 HP7 HXR7 HXR8 c7 f7 HST1 HST3 HST5 HST6 HST7
  go_upto_region 7 with fail
  generalize hW : w8.setCell ⟨R, 8, none⟩ (.string c) = w9 at HX8s HM8 HP8 HS8 HX8 HV8 HU8 HQ8 HO8 ⊢
  have c11 : w9.cell? ⟨R, 11, none⟩ = some (.slice (isW V (btest x 4)).ao (isW V (btest x 4)).n (isW V (btest x 4)).cap) := (unhide HP8).wills
  have hlt9 : R < w9.heap.size := (unhide HS8).lt
  have hs49 : w4.heap.size ≤ w9.heap.size := (unhide HX8s)
  have hM9 : M ≤ w9.heap.size := unhide HM8
  have h0w : w0.heap.size ≤ w4.heap.size := Nat.le_trans (unhide HS).keep.size hsz4
  clear hW c8 f8
  go_upto_block 0 with fail
  go_cut [] from 3 (fun wx => ∃ wl st9, Hid (RS w0 wx R st9) ∧ Hid (Pk wx R { p with clean := btest x 2, wills := isW V (btest x 4), user := isW U (btest x 128), pass := isW Q (btest x 64), keep := k, props := tp, client := c }) ∧ Hid (BX R isAny w wx) ∧ Hid (WillAt w4.heap.size w9.heap.size R wx x V wl) ∧ Hid (Rm w4.heap.size R wx (btest x 128) U strO) ∧ Hid (Rm w4.heap.size R wx (btest x 64) Q strO) ∧ Hid (wx.ownsRow M 147 4 tp.val pr.length (pcs pr)) ∧ Hid (Stp (will? x) st8 wl st9) ∧ w9.heap.size ≤ wx.heap.size)
  case first =>
    cases h4 : btest x 4
    · rw [h4] at c11
      rw [show isW V false = ⟨none, 0, 0⟩ from rfl] at c11 ⊢
      go_wp2
      refine wp_loop_rounds 1 ?_
      rw [rounds_succ]
      go_wp2
      go_meet
      case rel =>
        refine ⟨none, st8, HS8, HP8, HX8, ⟨fun _ => rfl, fun h => by rw [h4] at h; cases h⟩, HU8, HQ8, HO8, ?_, Nat.le_refl _⟩
        show Stp (will? x) st8 none st8
        unfold will?
        rw [h4]
        exact Stp.pure _ _
    · rw [h4] at c11
      rw [show isW V true = ⟨some ⟨V, 0, none⟩, 1, 1⟩ from rfl] at c11 ⊢
      obtain ⟨hV0, hVR, hVb⟩ := unhide HV8
      obtain ⟨hVl, hVh⟩ := hVb h4
      have hVM := (unhide HVM).1 h4
      have hVh0 : Hid (w9.heap[V]? = some (.cells #[.string ⟨#[]⟩, .string ⟨#[]⟩, .int .i64 (x / 8 % 4), .bool (btest x 32), .slice none 0 0] 74)) := hVh
      clear hVb hVh
      have HU9 : Hid (btest x 128 = true → U ≠ V) := fun h e => (unhide HNE).1 h4 h e.symm
      have HQ9 : Hid (btest x 64 = true → Q ≠ V) := fun h e => (unhide HNE).2.1 h4 h e.symm
      go_wp2
      refine wp_loop_rounds 2 ?_
      rw [rounds_succ]
      go_wp2_with fail
      refine (props_any R 16 st8 w0 w9 (unhide HS8)).mono ?_
      rintro e w10 ⟨tq, q, st10, rfl, hO10, hs10, h10, hx10⟩
      have b10 : w10.heap[V]? = some (.cells #[.string ⟨#[]⟩, .string ⟨#[]⟩, .int .i64 (x / 8 % 4), .bool (btest x 32), .slice none 0 0] 74) := (hx10.block V hVl hVR).trans (unhide hVh0)
      have v4 : w10.cell? ⟨V, 4, none⟩ = some (.slice none 0 0) := by simp [World.cell?, b10]
      have g4 : w10.frozen? ⟨V, 4, none⟩ = false := by simp [World.frozen?, b10]
      have hVl10 : V < w10.heap.size := Nat.lt_of_lt_of_le hVl hx10.size
      have BV10 : Hid ((w10.setCell ⟨V, 4, none⟩ tq.val).heap[V]? = some (.cells #[.string ⟨#[]⟩, .string ⟨#[]⟩, .int .i64 (x / 8 % 4), .bool (btest x 32), Sl.val tq] 74)) := by
        have k := heap_set (j := 4) (u := tq.val) b10
        show _ = _
        simpa using k
      have HS10 : Hid (RS w0 (w10.setCell ⟨V, 4, none⟩ tq.val) R st10) := h10.setOut V 4 _ hVR (Nat.le_trans h0w hV0) (fun t y e => by simp [World.cell?, b10] at e)
      have HX10 : Hid (BX R isAny w (w10.setCell ⟨V, 4, none⟩ tq.val)) := ((unhide HX8).trans hx10.any).setOut V 4 _ (Nat.le_trans hsz4 hV0) hlt
      have HO10 : Hid ((w10.setCell ⟨V, 4, none⟩ tq.val).ownsRow w9.heap.size 147 4 tq.val q.length (pcs q)) := owns_out (unhide hO10) hVl
      have HT10 : Hid ((w10.setCell ⟨V, 4, none⟩ tq.val).ownsRow M 147 4 tp.val pr.length (pcs pr)) := owns_out (owns_bx (unhide HO8) hx10 (Nat.lt_of_lt_of_le hlt hM0)) hVM
      have HP10 : Hid (Pk (w10.setCell ⟨V, 4, none⟩ tq.val) R { p with clean := btest x 2, wills := isW V (btest x 4), user := isW U (btest x 128), pass := isW Q (btest x 64), keep := k, props := tp, client := c }) := pk_out ((unhide HP8).bx hx10) hVR
      have HU10 : Hid (Rm w4.heap.size R (w10.setCell ⟨V, 4, none⟩ tq.val) (btest x 128) U strO) := ((unhide HU8).bx hx10).out (unhide HU9)
      have HQ10 : Hid (Rm w4.heap.size R (w10.setCell ⟨V, 4, none⟩ tq.val) (btest x 64) Q strO) := ((unhide HQ8).bx hx10).out (unhide HQ9)
      have HN10 : w9.heap.size ≤ (w10.setCell ⟨V, 4, none⟩ tq.val).heap.size := by simpa [World.setCell] using hx10.size
      have hl10 : V < (w10.setCell ⟨V, 4, none⟩ tq.val).heap.size := by simpa [World.setCell] using hVl10
      have HST10 := hide hs10
      clear hO10 hs10 h10 hx10 c11 b10
      go_wp2_with fail
      refine (text_any R st10 w0 _ (unhide HS10)).mono ?_
      rintro e w11 ⟨t, st11, rfl, -, hs11, h11, hx11⟩
      have b11 : w11.heap[V]? = some (.cells #[.string ⟨#[]⟩, .string ⟨#[]⟩, .int .i64 (x / 8 % 4), .bool (btest x 32), Sl.val tq] 74) := (hx11.block V hl10 hVR).trans (unhide BV10)
      have v0 : w11.cell? ⟨V, 0, none⟩ = some (.string ⟨#[]⟩) := by simp [World.cell?, b11]
      have g0 : w11.frozen? ⟨V, 0, none⟩ = false := by simp [World.frozen?, b11]
      have BV11 : Hid ((w11.setCell ⟨V, 0, none⟩ (.string t)).heap[V]? = some (.cells #[.string t, .string ⟨#[]⟩, .int .i64 (x / 8 % 4), .bool (btest x 32), Sl.val tq] 74)) := by
        have k := heap_set (j := 0) (u := .string t) b11
        show _ = _
        simpa using k
      have HS11 : Hid (RS w0 (w11.setCell ⟨V, 0, none⟩ (.string t)) R st11) := h11.setOut V 0 _ hVR (Nat.le_trans h0w hV0) (fun t y e => by simp [World.cell?, b11] at e)
      have HX11 : Hid (BX R isAny w (w11.setCell ⟨V, 0, none⟩ (.string t))) := ((unhide HX10).trans hx11.any).setOut V 0 _ (Nat.le_trans hsz4 hV0) hlt
      have HO11 : Hid ((w11.setCell ⟨V, 0, none⟩ (.string t)).ownsRow w9.heap.size 147 4 tq.val q.length (pcs q)) := owns_out (owns_bx (unhide HO10) hx11 hlt9) hVl
      have HT11 : Hid ((w11.setCell ⟨V, 0, none⟩ (.string t)).ownsRow M 147 4 tp.val pr.length (pcs pr)) := owns_out (owns_bx (unhide HT10) hx11 (Nat.lt_of_lt_of_le hlt hM0)) hVM
      have HP11 : Hid (Pk (w11.setCell ⟨V, 0, none⟩ (.string t)) R { p with clean := btest x 2, wills := isW V (btest x 4), user := isW U (btest x 128), pass := isW Q (btest x 64), keep := k, props := tp, client := c }) := pk_out ((unhide HP10).bx hx11) hVR
      have HU11 : Hid (Rm w4.heap.size R (w11.setCell ⟨V, 0, none⟩ (.string t)) (btest x 128) U strO) := ((unhide HU10).bx hx11).out (unhide HU9)
      have HQ11 : Hid (Rm w4.heap.size R (w11.setCell ⟨V, 0, none⟩ (.string t)) (btest x 64) Q strO) := ((unhide HQ10).bx hx11).out (unhide HQ9)
      have HN11 : w9.heap.size ≤ (w11.setCell ⟨V, 0, none⟩ (.string t)).heap.size := Nat.le_trans HN10 (by simpa [World.setCell] using hx11.size)
      have hl11 : V < (w11.setCell ⟨V, 0, none⟩ (.string t)).heap.size := Nat.lt_of_lt_of_le hl10 (by simpa [World.setCell] using hx11.size)
      have HST11 := hide hs11
      clear hs11 h11 hx11 b11 v4 g4 HS10 HX10 HO10 HT10 HP10 HU10 HQ10 HN10 BV10
      go_wp2_with fail
      refine (bin_any R st11 w0 _ (unhide HS11)).mono ?_
      rintro e w12 ⟨y, st12, rfl, -, hs12, h12, hx12⟩
      have b12 : w12.heap[V]? = some (.cells #[.string t, .string ⟨#[]⟩, .int .i64 (x / 8 % 4), .bool (btest x 32), Sl.val tq] 74) := (hx12.block V hl11 hVR).trans (unhide BV11)
      have v1 : w12.cell? ⟨V, 1, none⟩ = some (.string ⟨#[]⟩) := by simp [World.cell?, b12]
      have g1 : w12.frozen? ⟨V, 1, none⟩ = false := by simp [World.frozen?, b12]
      have BV12 : Hid ((w12.setCell ⟨V, 1, none⟩ (.string y)).heap[V]? = some (.cells #[.string t, .string y, .int .i64 (x / 8 % 4), .bool (btest x 32), Sl.val tq] 74)) := by
        have k := heap_set (j := 1) (u := .string y) b12
        show _ = _
        simpa using k
      have HS12 : Hid (RS w0 (w12.setCell ⟨V, 1, none⟩ (.string y)) R st12) := h12.setOut V 1 _ hVR (Nat.le_trans h0w hV0) (fun t y e => by simp [World.cell?, b12] at e)
      have HX12 : Hid (BX R isAny w (w12.setCell ⟨V, 1, none⟩ (.string y))) := ((unhide HX11).trans hx12.any).setOut V 1 _ (Nat.le_trans hsz4 hV0) hlt
      have HO12 : Hid ((w12.setCell ⟨V, 1, none⟩ (.string y)).ownsRow w9.heap.size 147 4 tq.val q.length (pcs q)) := owns_out (owns_bx (unhide HO11) hx12 hlt9) hVl
      have HT12 : Hid ((w12.setCell ⟨V, 1, none⟩ (.string y)).ownsRow M 147 4 tp.val pr.length (pcs pr)) := owns_out (owns_bx (unhide HT11) hx12 (Nat.lt_of_lt_of_le hlt hM0)) hVM
      have HP12 : Hid (Pk (w12.setCell ⟨V, 1, none⟩ (.string y)) R { p with clean := btest x 2, wills := isW V (btest x 4), user := isW U (btest x 128), pass := isW Q (btest x 64), keep := k, props := tp, client := c }) := pk_out ((unhide HP11).bx hx12) hVR
      have HU12 : Hid (Rm w4.heap.size R (w12.setCell ⟨V, 1, none⟩ (.string y)) (btest x 128) U strO) := ((unhide HU11).bx hx12).out (unhide HU9)
      have HQ12 : Hid (Rm w4.heap.size R (w12.setCell ⟨V, 1, none⟩ (.string y)) (btest x 64) Q strO) := ((unhide HQ11).bx hx12).out (unhide HQ9)
      have HN12 : w9.heap.size ≤ (w12.setCell ⟨V, 1, none⟩ (.string y)).heap.size := Nat.le_trans HN11 (by simpa [World.setCell] using hx12.size)
      have hl12 : V < (w12.setCell ⟨V, 1, none⟩ (.string y)).heap.size := Nat.lt_of_lt_of_le hl11 (by simpa [World.setCell] using hx12.size)
      have HST12 : Hid (Stp (will? x) st8 (some (q, t, y)) st12) := by
        show Stp _ _ _ _
        unfold will?
        rw [h4, if_pos rfl]
        exact (unhide HST10).bind ((unhide HST11).bind (hs12.bind (Stp.pure _ _)))
      clear hs12 h12 hx12 b12 v0 g0 HS11 HX11 HO11 HT11 HP11 HU11 HQ11 HN11 BV11
      go_wp2
      rw [rounds_succ]
      go_wp2
      go_meet
      case rel =>
        exact ⟨some (q, t, y), st12, HS12, HP12, HX12, ⟨(fun h => by rw [h4] at h; cases h), fun _ => ⟨q, t, y, tq, rfl, hV0, hVR, hl12, unhide BV12, unhide HO12⟩⟩, HU12, HQ12, HT12, HST12, HN12⟩
  case rest =>
  obtain ⟨wl, st9, HS9, HP9, HX9, HWL, HU, HQ, HO9, HST9, hN9⟩ := hcut
  obtain ⟨wb, hwb⟩ : ∃ wb, wb = wc := ⟨wc, rfl⟩
  subst hwb
  clear HP8 HS8 HX8 HV8 HU8 HQ8 HO8 c11
  have cU : wb.cell? ⟨R, 12, none⟩ = some (.slice (isW U (btest x 128)).ao (isW U (btest x 128)).n (isW U (btest x 128)).cap) := (unhide HP9).user
  go_upto_block 2 with fail
  go_cut [] from 3 (fun wx => ∃ us stu, Hid (RS w0 wx R stu) ∧ Hid (Pk wx R { p with clean := btest x 2, wills := isW V (btest x 4), user := isW U (btest x 128), pass := isW Q (btest x 64), keep := k, props := tp, client := c }) ∧ Hid (BX R isAny w wx) ∧ Hid (WillAt w4.heap.size w9.heap.size R wx x V wl) ∧ Hid (StrAt w4.heap.size R wx (btest x 128) U us) ∧ Hid (Rm w4.heap.size R wx (btest x 64) Q strO) ∧ Hid (wx.ownsRow M 147 4 tp.val pr.length (pcs pr)) ∧ Hid (Stp (user? x) st9 us stu) ∧ w9.heap.size ≤ wx.heap.size)
  case first =>
    cases hb : btest x 128
    · rw [hb] at cU
      rw [show isW U false = ⟨none, 0, 0⟩ from rfl] at cU ⊢
      go_wp2
      refine wp_loop_rounds 1 ?_
      rw [rounds_succ]
      go_wp2
      go_meet
      case rel =>
        refine ⟨none, st9, HS9, HP9, HX9, HWL, ⟨fun _ => rfl, fun h => by rw [hb] at h; cases h⟩, HQ, HO9, ?_, hN9⟩
        show Stp (user? x) st9 none st9
        unfold user?
        rw [hb]
        exact Stp.pure _ _
    · rw [hb] at cU
      rw [show isW U true = ⟨some ⟨U, 0, none⟩, 1, 1⟩ from rfl] at cU ⊢
      obtain ⟨hU0, hUR, hUb⟩ := unhide HU
      obtain ⟨hUl, hUh0⟩ := hUb hb
      have hUh := hide hUh0
      clear hUb hUh0
      have hUM := (unhide HVM).2.1 hb
      go_wp2
      refine wp_loop_rounds 2 ?_
      rw [rounds_succ]
      go_wp2_with fail
      refine wp_region_noPanic ?_
      refine wp_region_held_drew (S := (fun w' => w'.cell? ⟨R, 12, none⟩ = some (.slice (some ⟨U, 0, none⟩) 1 1))) (by kernel_rfl) (by simpa using cU) (fun hHeld => ?_)
      refine wpAnyH_take (i := 0) (oi := { dst := some 79, op := Op.move (Operand.tmp 2), type := 54, pos := "read.go:57", after := #[], guard := none }) (v := ?v8) rfl (by kernel_rfl) (by kernel_rfl) (by kernel_rfl) (fun _ _ _ h => h) (Or.inl ⟨by rfl, ?hy8⟩) (by assumption) ?rest8
      case hy8 => (intro w hSw; (try dsimp only at hSw); go_simp; (try rw [if_pos (by omega)]); (try with_reducible rfl))
      simp only [Act.put, List.setIfInBounds_toArray, List.set_cons_zero, List.set_cons_succ]
      refine wpAnyH_take (i := 1) (oi := { dst := some 80, op := Op.nilCheck (Operand.tmp 79), type := 0, pos := "read.go:57", after := #[{ on := 0, ground := Ground.data }], guard := none }) (v := ?v9) rfl (by kernel_rfl) (by kernel_rfl) (by kernel_rfl) (fun _ _ _ h => h) (Or.inl ⟨by rfl, ?hy9⟩) (by assumption) ?rest9
      case hy9 => (intro w hSw; (try dsimp only at hSw); go_simp; (try rw [if_pos (by omega)]); (try with_reducible rfl))
      simp only [Act.put, List.setIfInBounds_toArray, List.set_cons_zero, List.set_cons_succ]
      refine wpAnyH_take (i := 2) (oi := { dst := some 81, op := Op.fieldAddr 30 (Operand.tmp 80) 12, type := 0, pos := "read.go:57", after := #[{ on := 1, ground := Ground.data }], guard := none }) (v := ?v10) rfl (by kernel_rfl) (by kernel_rfl) (by kernel_rfl) (fun _ _ _ h => h) (Or.inl ⟨by rfl, ?hy10⟩) (by assumption) ?rest10
      case hy10 => (intro w hSw; (try dsimp only at hSw); go_simp; (try rw [if_pos (by omega)]); (try with_reducible rfl))
      simp only [Act.put, List.setIfInBounds_toArray, List.set_cons_zero, List.set_cons_succ]
      refine wpAnyH_take (i := 3) (oi := { dst := some 82, op := Op.load 26 (Operand.tmp 81), type := 26, pos := "read.go:57", after := #[{ on := 2, ground := Ground.data }], guard := none }) (v := ?v11) rfl (by kernel_rfl) (by kernel_rfl) (by kernel_rfl) (fun _ _ _ h => h) (Or.inl ⟨by rfl, ?hy11⟩) (by assumption) ?rest11
      case hy11 => (intro w hSw; (try dsimp only at hSw); go_simp; (try rw [if_pos (by omega)]); (try with_reducible rfl))
      simp only [Act.put, List.setIfInBounds_toArray, List.set_cons_zero, List.set_cons_succ]
      refine wpAnyH_take (i := 4) (oi := { dst := some 83, op := Op.move (Operand.tmp 5), type := 3, pos := "read.go:57", after := #[], guard := none }) (v := ?v12) rfl (by kernel_rfl) (by kernel_rfl) (by kernel_rfl) (fun _ _ _ h => h) (Or.inl ⟨by rfl, ?hy12⟩) (by assumption) ?rest12
      case hy12 => (intro w hSw; (try dsimp only at hSw); go_simp; (try rw [if_pos (by omega)]); (try with_reducible rfl))
      simp only [Act.put, List.setIfInBounds_toArray, List.set_cons_zero, List.set_cons_succ]
      refine wpAnyH_take (i := 5) (oi := { dst := some 84, op := Op.move (Operand.tmp 0), type := 53, pos := "read.go:57", after := #[], guard := none }) (v := ?v13) rfl (by kernel_rfl) (by kernel_rfl) (by kernel_rfl) (fun _ _ _ h => h) (Or.inl ⟨by rfl, ?hy13⟩) (by assumption) ?rest13
      case hy13 => (intro w hSw; (try dsimp only at hSw); go_simp; (try rw [if_pos (by omega)]); (try with_reducible rfl))
      simp only [Act.put, List.setIfInBounds_toArray, List.set_cons_zero, List.set_cons_succ]
      refine wpAnyH_ready (rs := [6]) (by kernel_rfl) (by simp) ?_
      refine AllReadyH.cons (o := { dst := some 85, op := Op.call { callee := Callee.value (Operand.func 33), args := #[Operand.tmp 84], argTypes := #[53] }, type := 9, pos := "read.go:57", after := #[{ on := 5, ground := Ground.data }], guard := none }) rfl (fun K hK => ?_) AllReadyH.nil
      go_simp
      refine (text_any R st9 w0 _ ((unhide HS9).below (bel_drew wb))).mono ?_
      rintro e w20 ⟨t, stu, rfl, -, hs20, h20, hx20⟩
      have hxw : BX R isRE wb w20 := (BX.of_below (bel_drew wb) (unhide HS9).lt).trans hx20
      have hcU : w20.cell? ⟨R, 12, none⟩ = some (.slice (some ⟨U, 0, none⟩) 1 1) := (hxw.cell 12 (by unfold isRE; omega)).trans cU
      have b20 : w20.heap[U]? = some strO := (hxw.block U hUl hUR).trans (unhide hUh)
      have v0 : w20.cell? ⟨U, 0, none⟩ = some (.string ⟨#[]⟩) := by simp [World.cell?, b20]
      have g0 : w20.frozen? ⟨U, 0, none⟩ = false := by simp [World.frozen?, b20]
      have BU : Hid ((w20.setCell ⟨U, 0, none⟩ (.string t)).heap[U]? = some (.cells #[.string t] 9)) := by
        have k := heap_set (j := 0) (u := .string t) b20
        show _ = _
        simpa using k
      have HS20 : Hid (RS w0 (w20.setCell ⟨U, 0, none⟩ (.string t)) R stu) := h20.setOut U 0 _ hUR (Nat.le_trans h0w hU0) (fun t y e => by simp [World.cell?, b20] at e)
      have HX20 : Hid (BX R isAny w (w20.setCell ⟨U, 0, none⟩ (.string t))) := ((unhide HX9).trans hxw.any).setOut U 0 _ (Nat.le_trans hsz4 hU0) hlt
      have HT20 : Hid ((w20.setCell ⟨U, 0, none⟩ (.string t)).ownsRow M 147 4 tp.val pr.length (pcs pr)) := owns_out (owns_bx (unhide HO9) hxw (Nat.lt_of_lt_of_le hlt hM0)) hUM
      have HP20 : Hid (Pk (w20.setCell ⟨U, 0, none⟩ (.string t)) R { p with clean := btest x 2, wills := isW V (btest x 4), user := isW U (btest x 128), pass := isW Q (btest x 64), keep := k, props := tp, client := c }) := pk_out ((unhide HP9).bx hxw) hUR
      have HW20 : Hid (WillAt w4.heap.size w9.heap.size R (w20.setCell ⟨U, 0, none⟩ (.string t)) x V wl) := ((unhide HWL).bx hxw hlt9).out (fun h => (unhide HNE).1 h hb) (Nat.lt_of_lt_of_le hUM hM9)
      have HN20 : w9.heap.size ≤ (w20.setCell ⟨U, 0, none⟩ (.string t)).heap.size := Nat.le_trans hN9 (by simpa [World.setCell] using hxw.size)
      have hl20 : U < (w20.setCell ⟨U, 0, none⟩ (.string t)).heap.size := Nat.lt_of_lt_of_le hUl (by simpa [World.setCell] using hxw.size)
      have HST20 : Hid (Stp (user? x) st9 (some t) stu) := by
        show Stp _ _ _ _
        unfold user?
        rw [hb, if_pos rfl]
        exact hs20.bind (Stp.pure _ _)
      have H2Q : Hid (Rm w4.heap.size R (w20.setCell ⟨U, 0, none⟩ (.string t)) (btest x 64) Q strO) := ((unhide HQ).bx hxw).out (fun h e => (unhide HNE).2.2 hb h e.symm)
      have hcS : (w20.setCell ⟨U, 0, none⟩ (.string t)).cell? ⟨R, 12, none⟩ = some (.slice (some ⟨U, 0, none⟩) 1 1) := (World.cell?_setCell_other _ _ _ _ (fun e => by injection e with e1 _; exact hUR e1)).trans hcU
      clear hs20 h20 hx20 hxw
      refine hK.out _ _ (by exact hcU) (fun hHeld => ?_)
      clear hK K
      refine wpAnyH_take (i := 7) (oi := { dst := some 86, op := Op.indexAddr 26 (Operand.tmp 82) (Operand.tmp 83), type := 0, pos := "read.go:57", after := #[{ on := 3, ground := Ground.data }, { on := 4, ground := Ground.data }, { on := 0, ground := Ground.phase }, { on := 1, ground := Ground.phase }, { on := 2, ground := Ground.phase }, { on := 3, ground := Ground.phase }, { on := 4, ground := Ground.phase }, { on := 5, ground := Ground.phase }, { on := 6, ground := Ground.phase }], guard := none }) (v := ?v14) rfl (by kernel_rfl) (by kernel_rfl) (by kernel_rfl) (fun _ _ _ h => h) (Or.inl ⟨by rfl, ?hy14⟩) (by assumption) ?rest14
      case hy14 => (intro w hSw; (try dsimp only at hSw); go_simp; (try rw [if_pos (by omega)]); (try with_reducible rfl))
      simp only [Act.put, List.setIfInBounds_toArray, List.set_cons_zero, List.set_cons_succ]
      refine wpAnyH_ready (rs := [8]) (by kernel_rfl) (by simp) ?_
      refine AllReadyH.cons (o := { dst := none, op := Op.store 9 (Operand.tmp 86) (Operand.tmp 85), type := 0, pos := "read.go:57", after := #[{ on := 7, ground := Ground.data }, { on := 6, ground := Ground.data }, { on := 6, ground := Ground.chain }, { on := 0, ground := Ground.phase }, { on := 1, ground := Ground.phase }, { on := 2, ground := Ground.phase }, { on := 3, ground := Ground.phase }, { on := 4, ground := Ground.phase }, { on := 5, ground := Ground.phase }, { on := 6, ground := Ground.phase }], guard := none }) rfl (fun K hK => ?_) AllReadyH.nil
      go_simp
      refine hK.out _ _ (by exact hcS) (fun hHeld => ?_)
      clear hK K
      refine wpAnyH_done (by kernel_rfl) ?_ _
      refine NoPanic.normal ?_
      clear cU hcU v0 g0 b20 hcS hHeld
      go_wp2
      rw [rounds_succ]
      go_wp2
      go_meet
      case rel =>
        exact ⟨some t, stu, HS20, HP20, HX20, HW20, ⟨(fun h => by rw [hb] at h; cases h), fun _ => ⟨t, rfl, hU0, hUR, hl20, unhide BU⟩⟩, H2Q, HT20, HST20, HN20⟩
  case rest =>
  obtain ⟨us, stu, HSu, HPu, HXu, HWLu, HDU, HQu, HOu, HSTu, hNu⟩ := hcut
  obtain ⟨we, hwe⟩ : ∃ we, we = wc := ⟨wc, rfl⟩
  subst hwe
  clear HS9 HP9 HX9 HWL HU HQ HO9 hN9 cU
  have HS13 := HSu
  have HP13 := HPu
  have HX13 := HXu
  have HWL := HWLu
  have HQ := HQu
  have HO13 := HOu
  have hN13 := hNu
  clear HSu HPu HXu HWLu HQu HOu hNu
  have cU : we.cell? ⟨R, 13, none⟩ = some (.slice (isW Q (btest x 64)).ao (isW Q (btest x 64)).n (isW Q (btest x 64)).cap) := (unhide HP13).pass
  cases hb : btest x 64
  · rw [hb] at cU
    rw [show isW Q false = ⟨none, 0, 0⟩ from rfl] at cU
    go_wp2
    refine wp_loop_rounds 1 ?_
    rw [rounds_succ]
    go_wp2
    go_end0
    have hSP : Stp (pass? x) stu none stu := by
      unfold pass?
      rw [hb, if_neg (by decide)]
      exact Stp.pure _ _
    exact ⟨rfl, ⟨x, k, pr, c, wl, us, none⟩, V, U, Q, w9.heap.size, tp, _, unhide HP13, owns_mono (unhide HO13) hM0, Nat.le_trans hsz4 hs49, (unhide HWL).base hsz4, (unhide HDU).base hsz4, ⟨fun _ => rfl, fun h => by rw [hb] at h; cases h⟩, (unhide HST8) _ _ _ _ _ _ (unhide HST9) (unhide HSTu) hSP, unhide HS13, unhide HX13⟩
  · rw [hb] at cU
    rw [show isW Q true = ⟨some ⟨Q, 0, none⟩, 1, 1⟩ from rfl] at cU
    obtain ⟨hU0, hUR, hUb⟩ := unhide HQ
    obtain ⟨hUl, hUh0⟩ := hUb hb
    have hUh := hide hUh0
    clear hUb hUh0
    have hUM := (unhide HVM).2.2 hb
    go_wp2
    refine wp_loop_rounds 2 ?_
    rw [rounds_succ]
    go_wp2_with fail
    refine wp_region_noPanic ?_
    refine wp_region_held_drew (S := (fun w' => w'.cell? ⟨R, 13, none⟩ = some (.slice (some ⟨Q, 0, none⟩) 1 1))) (by kernel_rfl) (by simpa using cU) (fun hHeld => ?_)
    refine wpAnyH_take (i := 0) (oi := { dst := some 96, op := Op.move (Operand.tmp 2), type := 54, pos := "read.go:60", after := #[], guard := none }) (v := ?v22) rfl (by kernel_rfl) (by kernel_rfl) (by kernel_rfl) (fun _ _ _ h => h) (Or.inl ⟨by rfl, ?hy22⟩) (by assumption) ?rest22
    case hy22 => (intro w hSw; (try dsimp only at hSw); go_simp; (try rw [if_pos (by omega)]); (try with_reducible rfl))
    simp only [Act.put, List.setIfInBounds_toArray, List.set_cons_zero, List.set_cons_succ]
    refine wpAnyH_take (i := 1) (oi := { dst := some 97, op := Op.nilCheck (Operand.tmp 96), type := 0, pos := "read.go:60", after := #[{ on := 0, ground := Ground.data }], guard := none }) (v := ?v23) rfl (by kernel_rfl) (by kernel_rfl) (by kernel_rfl) (fun _ _ _ h => h) (Or.inl ⟨by rfl, ?hy23⟩) (by assumption) ?rest23
    case hy23 => (intro w hSw; (try dsimp only at hSw); go_simp; (try rw [if_pos (by omega)]); (try with_reducible rfl))
    simp only [Act.put, List.setIfInBounds_toArray, List.set_cons_zero, List.set_cons_succ]
    refine wpAnyH_take (i := 2) (oi := { dst := some 98, op := Op.fieldAddr 30 (Operand.tmp 97) 13, type := 0, pos := "read.go:60", after := #[{ on := 1, ground := Ground.data }], guard := none }) (v := ?v24) rfl (by kernel_rfl) (by kernel_rfl) (by kernel_rfl) (fun _ _ _ h => h) (Or.inl ⟨by rfl, ?hy24⟩) (by assumption) ?rest24
    case hy24 => (intro w hSw; (try dsimp only at hSw); go_simp; (try rw [if_pos (by omega)]); (try with_reducible rfl))
    simp only [Act.put, List.setIfInBounds_toArray, List.set_cons_zero, List.set_cons_succ]
    refine wpAnyH_take (i := 3) (oi := { dst := some 99, op := Op.load 26 (Operand.tmp 98), type := 26, pos := "read.go:60", after := #[{ on := 2, ground := Ground.data }], guard := none }) (v := ?v25) rfl (by kernel_rfl) (by kernel_rfl) (by kernel_rfl) (fun _ _ _ h => h) (Or.inl ⟨by rfl, ?hy25⟩) (by assumption) ?rest25
    case hy25 => (intro w hSw; (try dsimp only at hSw); go_simp; (try rw [if_pos (by omega)]); (try with_reducible rfl))
    simp only [Act.put, List.setIfInBounds_toArray, List.set_cons_zero, List.set_cons_succ]
    refine wpAnyH_take (i := 4) (oi := { dst := some 100, op := Op.move (Operand.tmp 6), type := 3, pos := "read.go:60", after := #[], guard := none }) (v := ?v26) rfl (by kernel_rfl) (by kernel_rfl) (by kernel_rfl) (fun _ _ _ h => h) (Or.inl ⟨by rfl, ?hy26⟩) (by assumption) ?rest26
    case hy26 => (intro w hSw; (try dsimp only at hSw); go_simp; (try rw [if_pos (by omega)]); (try with_reducible rfl))
    simp only [Act.put, List.setIfInBounds_toArray, List.set_cons_zero, List.set_cons_succ]
    refine wpAnyH_take (i := 5) (oi := { dst := some 101, op := Op.move (Operand.tmp 0), type := 53, pos := "read.go:60", after := #[], guard := none }) (v := ?v27) rfl (by kernel_rfl) (by kernel_rfl) (by kernel_rfl) (fun _ _ _ h => h) (Or.inl ⟨by rfl, ?hy27⟩) (by assumption) ?rest27
    case hy27 => (intro w hSw; (try dsimp only at hSw); go_simp; (try rw [if_pos (by omega)]); (try with_reducible rfl))
    simp only [Act.put, List.setIfInBounds_toArray, List.set_cons_zero, List.set_cons_succ]
    refine wpAnyH_ready (rs := [6]) (by kernel_rfl) (by simp) ?_
    refine AllReadyH.cons (o := { dst := some 102, op := Op.call { callee := Callee.value (Operand.func 36), args := #[Operand.tmp 101], argTypes := #[53] }, type := 9, pos := "read.go:60", after := #[{ on := 5, ground := Ground.data }], guard := none }) rfl (fun K hK => ?_) AllReadyH.nil
    go_simp
    refine (bin_any R stu w0 _ ((unhide HS13).below (bel_drew we))).mono ?_
    rintro e w20 ⟨t, stp, rfl, -, hs20, h20, hx20⟩
    have hxw : BX R isRE we w20 := (BX.of_below (bel_drew we) (unhide HS13).lt).trans hx20
    have hcU : w20.cell? ⟨R, 13, none⟩ = some (.slice (some ⟨Q, 0, none⟩) 1 1) := (hxw.cell 13 (by unfold isRE; omega)).trans cU
    have b20 : w20.heap[Q]? = some strO := (hxw.block Q hUl hUR).trans (unhide hUh)
    have v0 : w20.cell? ⟨Q, 0, none⟩ = some (.string ⟨#[]⟩) := by simp [World.cell?, b20]
    have g0 : w20.frozen? ⟨Q, 0, none⟩ = false := by simp [World.frozen?, b20]
    have BU : Hid ((w20.setCell ⟨Q, 0, none⟩ (.string t)).heap[Q]? = some (.cells #[.string t] 9)) := by
      have k := heap_set (j := 0) (u := .string t) b20
      show _ = _
      simpa using k
    have HS20 : Hid (RS w0 (w20.setCell ⟨Q, 0, none⟩ (.string t)) R stp) := h20.setOut Q 0 _ hUR (Nat.le_trans h0w hU0) (fun t y e => by simp [World.cell?, b20] at e)
    have HX20 : Hid (BX R isAny w (w20.setCell ⟨Q, 0, none⟩ (.string t))) := ((unhide HX13).trans hxw.any).setOut Q 0 _ (Nat.le_trans hsz4 hU0) hlt
    have HT20 : Hid ((w20.setCell ⟨Q, 0, none⟩ (.string t)).ownsRow M 147 4 tp.val pr.length (pcs pr)) := owns_out (owns_bx (unhide HO13) hxw (Nat.lt_of_lt_of_le hlt hM0)) hUM
    have HP20 : Hid (Pk (w20.setCell ⟨Q, 0, none⟩ (.string t)) R { p with clean := btest x 2, wills := isW V (btest x 4), user := isW U (btest x 128), pass := isW Q (btest x 64), keep := k, props := tp, client := c }) := pk_out ((unhide HP13).bx hxw) hUR
    have HW20 : Hid (WillAt w4.heap.size w9.heap.size R (w20.setCell ⟨Q, 0, none⟩ (.string t)) x V wl) := ((unhide HWL).bx hxw hlt9).out (fun h => (unhide HNE).2.1 h hb) (Nat.lt_of_lt_of_le hUM hM9)
    have HN20 : w9.heap.size ≤ (w20.setCell ⟨Q, 0, none⟩ (.string t)).heap.size := Nat.le_trans hN13 (by simpa [World.setCell] using hxw.size)
    have hl20 : Q < (w20.setCell ⟨Q, 0, none⟩ (.string t)).heap.size := Nat.lt_of_lt_of_le hUl (by simpa [World.setCell] using hxw.size)
    have HST20 : Hid (Stp (pass? x) stu (some t) stp) := by
      show Stp _ _ _ _
      unfold pass?
      rw [hb, if_pos rfl]
      exact hs20.bind (Stp.pure _ _)
    have H2U : Hid (StrAt w4.heap.size R (w20.setCell ⟨Q, 0, none⟩ (.string t)) (btest x 128) U us) := ((unhide HDU).bx hxw).out (fun h => (unhide HNE).2.2 h hb)
    have hcS : (w20.setCell ⟨Q, 0, none⟩ (.string t)).cell? ⟨R, 13, none⟩ = some (.slice (some ⟨Q, 0, none⟩) 1 1) := (World.cell?_setCell_other _ _ _ _ (fun e => by injection e with e1 _; exact hUR e1)).trans hcU
    clear hs20 h20 hx20 hxw
    refine hK.out _ _ (by exact hcU) (fun hHeld => ?_)
    clear hK K
    refine wpAnyH_take (i := 7) (oi := { dst := some 103, op := Op.indexAddr 26 (Operand.tmp 99) (Operand.tmp 100), type := 0, pos := "read.go:60", after := #[{ on := 3, ground := Ground.data }, { on := 4, ground := Ground.data }, { on := 0, ground := Ground.phase }, { on := 1, ground := Ground.phase }, { on := 2, ground := Ground.phase }, { on := 3, ground := Ground.phase }, { on := 4, ground := Ground.phase }, { on := 5, ground := Ground.phase }, { on := 6, ground := Ground.phase }], guard := none }) (v := ?v28) rfl (by kernel_rfl) (by kernel_rfl) (by kernel_rfl) (fun _ _ _ h => h) (Or.inl ⟨by rfl, ?hy28⟩) (by assumption) ?rest28
    case hy28 => (intro w hSw; (try dsimp only at hSw); go_simp; (try rw [if_pos (by omega)]); (try with_reducible rfl))
    simp only [Act.put, List.setIfInBounds_toArray, List.set_cons_zero, List.set_cons_succ]
    refine wpAnyH_ready (rs := [8]) (by kernel_rfl) (by simp) ?_
    refine AllReadyH.cons (o := { dst := none, op := Op.store 9 (Operand.tmp 103) (Operand.tmp 102), type := 0, pos := "read.go:60", after := #[{ on := 7, ground := Ground.data }, { on := 6, ground := Ground.data }, { on := 6, ground := Ground.chain }, { on := 0, ground := Ground.phase }, { on := 1, ground := Ground.phase }, { on := 2, ground := Ground.phase }, { on := 3, ground := Ground.phase }, { on := 4, ground := Ground.phase }, { on := 5, ground := Ground.phase }, { on := 6, ground := Ground.phase }], guard := none }) rfl (fun K hK => ?_) AllReadyH.nil
    go_simp
    refine hK.out _ _ (by exact hcS) (fun hHeld => ?_)
    clear hK K
    refine wpAnyH_done (by kernel_rfl) ?_ _
    refine NoPanic.normal ?_
    clear cU hcU v0 g0 b20 hcS hHeld
    go_wp2
    rw [rounds_succ]
    go_wp2
    go_end0
    exact ⟨rfl, ⟨x, k, pr, c, wl, us, (some t)⟩, V, U, Q, w9.heap.size, tp, _, unhide HP20, owns_mono (unhide HT20) hM0, Nat.le_trans hsz4 hs49, (unhide HW20).base hsz4, (unhide H2U).base hsz4, ⟨(fun h => by rw [hb] at h; cases h), fun _ => ⟨t, rfl, Nat.le_trans hsz4 hU0, hUR, hl20, unhide BU⟩⟩, (unhide HST8) _ _ _ _ _ _ (unhide HST9) (unhide HSTu) (unhide HST20), unhide HS20, unhide HX20⟩
end Go.Proofs.YtgdfnopnmdjklaaGreatDoor.K
