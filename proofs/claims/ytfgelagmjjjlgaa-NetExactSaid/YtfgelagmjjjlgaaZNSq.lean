/- Proved here: rows of messages; dovecotelaw0.Rpcs, handed a row of the caller's own, writes into that and into its messages' rows alone. Helper contracts. -/
import Derived.Test.YtfgelagmjjjlgaaZNCp
import Derived.Deep.CutBlock
namespace Go.Proofs.Ytfgelagmjjjlgaa.Nt
open Go.RowKit
set_option maxRecDepth 100000

def mrow (qs : List Mq) : List Value := qs.flatMap mcs
theorem mrow_len (qs : List Mq) : (mrow qs).length = qs.length * 11 := by
  induction qs with
  | nil => rfl
  | cons p l ih => rw [show mrow (p :: l) = mcs p ++ mrow l from rfl, List.length_append, ih, mcs_len, List.length_cons]; omega
theorem mrow_one (qs : List Mq) : ∀ u ∈ mrow qs, u.oneCell' = true := fun u hu => by
  obtain ⟨q, _, hq⟩ := List.mem_flatMap.1 hu
  exact mcs_one q u hq
theorem mrow_app (a b : List Mq) : mrow (a ++ b) = mrow a ++ mrow b := by unfold mrow; rw [List.flatMap_append]
theorem mrow_get (qs : List Mq) : ∀ k q, qs[k]? = some q → ∀ j, j < 11 → (mrow qs)[k * 11 + j]? = (mcs q)[j]? := by
  induction qs with
  | nil => intro k q hk; simp at hk
  | cons p l ih =>
    intro k q hk j hj
    have e : mrow (p :: l) = mcs p ++ mrow l := rfl
    rw [e]
    rcases k with _ | k
    · simp at hk
      subst hk
      rw [List.getElem?_append_left (by rw [mcs_len]; omega)]
      simp
    · rw [List.getElem?_append_right (by rw [mcs_len]; omega), mcs_len, show (k + 1) * 11 + j - 11 = k * 11 + j from by omega]
      exact ih k q (by simpa using hk) j hj
/-- a row of one's own reads as its messages -/
theorem rps_of_own {w : World} {B : Nat} {v : Value} {qs : List Mq} (h : w.ownsRow B 33 11 v qs.length (mrow qs)) (ho : ∀ q ∈ qs, Rok w q ∧ Szs q.r) : Rps w v qs := by
  rcases h.2 with ⟨rfl, h1⟩ | ⟨g, cap, cur, rfl, hB, hg, rest⟩
  · exact ⟨none, 0, by rw [h1], .inl (List.length_eq_zero_iff.1 h1)⟩
  · refine ⟨_, cap, rfl, .inr ⟨g, 0, rfl, fun k hk => ?_⟩⟩
    have hq : qs[k]? = some (qs.getD k default) := by rw [List.getD_eq_getElem?_getD, List.getElem?_eq_getElem hk]; rfl
    refine ⟨fun j u hu => ?_, ho _ (List.mem_of_getElem? hq)⟩
    have hj : j < 11 := (List.getElem?_eq_some_iff.1 hu).1
    rw [Nat.zero_add, h.cellAt (k * 11 + j) (by omega), mrow_get qs k _ hq j hj]
    exact hu
theorem nd_parts {V : List Nat} {qs : List Mq} (h : (V ++ qs.flatMap qb).Nodup) {k : Nat} {q : Mq} (hq : qs[k]? = some q) : (∀ g ∈ qb q, g ∉ V ∧ g ∉ (qs.take k).flatMap qb) ∧ (qb q).Nodup := by
  have hk : k < qs.length := (List.getElem?_eq_some_iff.1 hq).1
  have e : qs = qs.take k ++ q :: qs.drop (k + 1) := by
    have hq' := (List.getElem?_eq_some_iff.1 hq).2
    rw [← hq', List.getElem_cons_drop, List.take_append_drop]
  rw [e, List.flatMap_append, List.flatMap_cons] at h
  obtain ⟨_, h2, h3⟩ := List.nodup_append.1 h
  obtain ⟨_, h5, h6⟩ := List.nodup_append.1 h2
  obtain ⟨h7, _, _⟩ := List.nodup_append.1 h5
  refine ⟨fun g hg => ⟨fun hV => ?_, fun ht => ?_⟩, h7⟩
  · exact h3 g hV g (List.mem_append.2 (.inr (List.mem_append.2 (.inl hg)))) rfl
  · exact h6 g ht g (List.mem_append.2 (.inl hg)) rfl
def qm9 : Mq := ⟨{ (default : Rp) with kind := -9 }, ⟨none, 0, 0⟩, ⟨none, 0, 0⟩⟩
def qz : Mq := default
theorem rpc_build1 (a : Act) (dst : Option Tmp) (x : Operand) (ty : TypeId) (pos : String) (after : Array Edge) (hx : a.eval x = .int .i64 (-9)) (w : World) :
    (execOp a.eval ⟨dst, .build 33 #[(0, x)], ty, pos, after, none⟩).run Try.prog w = .ok (.value (.agg (mcs qm9).toArray)) w := by
  unfold execOp
  simp only [List.map_toArray, List.map_cons, List.map_nil, hx]
  kernel_rfl
theorem rpc_build0 (ρ : Operand → Value) (dst : Option Tmp) (ty : TypeId) (pos : String) (after : Array Edge) (w : World) :
    (execOp ρ ⟨dst, .build 33 #[], ty, pos, after, none⟩).run Try.prog w = .ok (.value (.agg (mcs qz).toArray)) w := by
  kernel_rfl
theorem rpc_slice (a : Act) (dst : Option Tmp) (x : Operand) (ty : TypeId) (pos : String) (after : Array Edge) (q : Mq) (hx : a.eval x = .agg (mcs q).toArray) (w : World) :
    (execOp a.eval ⟨dst, .buildSlice 27 1 #[(0, x)], ty, pos, after, none⟩).run Try.prog w = .ok (.value (.slice (some ⟨w.heap.size, 0, none⟩) 1 1)) (w.alloc (.cells (mcs q).toArray 33)) := by
  unfold execOp
  simp only [List.map_toArray, List.map_cons, List.map_nil, hx]
  kernel_rfl
theorem mcs_cells {w : World} {b : Nat} {q : Mq} {t : TypeId} (h : Bx w b (mcs q) t) : ∀ j u, (mcs q)[j]? = some u → w.cell? ((⟨b, 0, none⟩ : Addr).add j) = some u := fun j u hu => by
  rw [Addr.add_mid, Nat.zero_add]
  exact h.cell j u hu
theorem rapp (B n : Nat) (v : Value) (w wr : World) (T : Nat → Prop) (i0 : TypeInfo) (hi : Try.prog.info? 33 = some i0) (hz0 : i0.zero = some (.agg rz.toArray)) (hz1 : i0.size = 11) (hz2 : i0.bytes = 128) (hn : n ≤ 1000000) (hB : B ≤ wr.heap.size) (hs : SF T w wr) (ho : OwnE wr B 33 11 v n) (hT : ∀ g, v.ownBlock = some g → T g) :
    ∀ ty, ∃ v' w', (Builtin.append_ #[27, 27] ty #[v, .slice (some ⟨wr.heap.size, 0, none⟩) 1 1]).run Try.prog (wr.alloc (.cells (mcs qz).toArray 33)) = .ok v' w' ∧ SF T w w' := fun ty => by
  have hal : Below wr.heap.size wr (wr.alloc (.cells (mcs qz).toArray 33)) := (Below.refl _ _).alloc (Nat.le_refl _) _
  obtain ⟨xs, hx⟩ := ho
  obtain ⟨v', w', h1, h2⟩ := app_sf (B := B) (T := T) (wr.alloc (.cells (mcs qz).toArray 33)) 27 ty 33 i0 _ 11 128 Try.underlying27 hi hz0 hz1 hz2 rfl (by decide) v n ⟨xs, hx.alloc _⟩ ⟨wr.heap.size, 0, none⟩ 1 (mcs qz) rfl (mcs_cells (Bx.new wr (mcs qz) 33 _ rfl)) (mcs_one qz) (by omega) (by omega) (by simp; omega) hT
  exact ⟨v', w', h1, (hs.trans (SF.bel hal)).trans h2⟩
set_option maxHeartbeats 4000000 in
theorem rpcs_sp (B : Nat) (v : Value) (qs : List Mq) (w : World) (hB : B ≤ w.heap.size) (hn : qs.length ≤ 1000000) (h : w.ownsRow B 33 11 v qs.length (mrow qs)) (ho : ∀ q ∈ qs, MqOwn w B q) (hd : (bl v ++ qs.flatMap qb).Nodup) :
    Calls Try.prog 12 #[v] w fun e w' => e = .returned (.tuple #[]) ∧ Fr (fun k => k ∈ bl v ++ qs.flatMap qb) w w' := by
  obtain ⟨i0, hi, hz0, hz1, hz2⟩ := info_parts infoR
  have hv : (v = .slice none 0 0 ∧ qs.length = 0) ∨ ∃ g cap, v = .slice (some ⟨g, 0, none⟩) qs.length cap := by
    rcases h.2 with h1 | ⟨g, cap, _, h1, _⟩
    · exact .inl h1
    · exact .inr ⟨g, cap, h1⟩
  have HO := hide h
  have HK := hide ho
  have HD := hide hd
  clear h ho hd
  generalize hql : qs.length = n at hv hn HO
  have HQL := hide hql
  clear hql
  rcases hv with ⟨rfl, rfl⟩ | ⟨g, cap, rfl⟩
  · have HAPP := hide (rapp B 0 (.slice none 0 0) w w (fun k => k ∈ bl (.slice none 0 0) ++ qs.flatMap qb) i0 hi hz0 hz1 hz2 hn hB (SF.refl _ _) ⟨[], World.ownsRow_nil _ _ _ _⟩ (fun g h => List.mem_append.2 (.inl (mem_bl.2 h))))
    clear HO HK HD HQL
    go_enter Try.func12, Try.ntmps12
    go_wp2
    refine wp_loop_rounds 1 ?_
    rw [rounds_succ]
    go_upto_region 6 with fail
    iterate 4 go_step
    refine wpList_value rfl (rpc_build0 _ _ _ _ _ _) ?_
    simp only [Act.put, List.setIfInBounds_toArray, List.set_cons_zero, List.set_cons_succ]
    refine wpList_value rfl (rpc_slice _ _ _ _ _ _ qz rfl _) ?_
    simp only [Act.put, List.setIfInBounds_toArray, List.set_cons_zero, List.set_cons_succ]
    refine wpList_append_run _ (Z := fun _ w' => SF (fun k => k ∈ bl (.slice none 0 0) ++ qs.flatMap qb) w w') rfl _ _ 27 27 rfl _ _ rfl rfl ((unhide HAPP) _) ?_
    intro v' w1 hsf
    have HSF := hide hsf
    clear hsf HAPP
    simp only [Act.put, List.setIfInBounds_toArray, List.set_cons_zero, List.set_cons_succ]
    go_wp2
    go_end0
    exact ⟨rfl, (unhide HSF).fr⟩
  · have HG : Hid (bl (Value.slice (some ⟨g, 0, none⟩) n cap) = [g]) := rfl
    go_enter Try.func12, Try.ntmps12
    go_wp2
    go_loopw [2] (fun i wr => ∃ (k : Nat) (ys : List Value), k ≤ n ∧ i = .int .i64 k ∧ Hid (SF (fun x => x ∈ bl (.slice (some ⟨g, 0, none⟩) n cap) ++ (qs.take k).flatMap qb) w wr) ∧ Hid (wr.ownsRow B 33 11 (.slice (some ⟨g, 0, none⟩) n cap) n ys) ∧ Hid (∀ j, k * 11 ≤ j → ys[j]? = (mrow qs)[j]?)) (fun i _ => n - (intOf i).toNat)
    case atStart => exact ⟨0, _, Nat.zero_le _, rfl, SF.refl _ _, HO, fun _ _ => rfl⟩
    case round =>
      obtain ⟨k, ys, hk, rfl, HSF, HY, HYS⟩ := hrel
      by_cases hlt : k < n
      · obtain ⟨q, hq⟩ : ∃ q, qs[k]? = some q := ⟨_, List.getElem?_eq_getElem (by rw [unhide HQL]; exact hlt)⟩
        have hcell : ∀ j u, (mcs q)[j]? = some u → wr.cell? ⟨g, k * 11 + j, none⟩ = some u := fun j u hu => by
          have hj : j < 11 := (List.getElem?_eq_some_iff.1 hu).1
          rw [(unhide HY).cellAt (k * 11 + j) (by omega), (unhide HYS) (k * 11 + j) (by omega), mrow_get qs k q hq j hj]
          exact hu
        have c8 : wr.cell? ⟨g, k * 11 + 8, none⟩ = some (.slice q.es.a q.es.n q.es.c) := hcell 8 _ rfl
        have c9' : wr.cell? ⟨g, k * 11 + 9, none⟩ = some (.slice q.ms.a q.ms.n q.ms.c) := hcell 9 _ rfl
        have HBr : Hid (B ≤ wr.heap.size) := Nat.le_trans hB (unhide HSF).fr.size
        obtain ⟨np1, np2⟩ := nd_parts (unhide HD) hq
        have HM : Hid (MqOwn wr B q) := ((unhide HK) q (List.mem_of_getElem? hq)).fr (unhide HSF).fr (fun g' hg' ht => by
          rcases List.mem_append.1 ht with h | h
          · exact (np1 g' hg').1 h
          · exact (np1 g' hg').2 h)
        have HTK : Hid ((qs.take (k + 1)).flatMap qb = (qs.take k).flatMap qb ++ qb q) := by
          show _ = _
          rw [List.take_add_one, hq, List.flatMap_append]
          simp
        have HN : Hid ((∀ g' ∈ qb q, g' ≠ g) ∧ (qb q).Nodup) := ⟨fun g' hg' e => (np1 g' hg').1 (by rw [unhide HG, e]; exact List.mem_singleton.2 rfl), np2⟩
        have HE := hide (entries_sp B _ q.r.ents.length wr (unhide HBr) (unhide HM).2.2.1 ⟨_, (unhide HM).1⟩)
        have C9 := hide c9'
        clear np1 np2 hcell hq c9'
        go_wp2_with fail
        refine (unhide HE).mono ?_
        rintro e w2 ⟨rfl, hsf⟩
        have hT2 : ∀ x, q.es.v.ownBlock = some x → x ∈ qb q := fun x hx => List.mem_append.2 (.inl (mem_bl.2 hx))
        have HY2 := hide (owns_fr (unhide HY) hsf.fr (fun g' hg' e => (unhide HN).1 g' (hT2 g' e) (Option.some.inj hg').symm))
        have HS2 : Hid (SF (fun x => x ∈ bl (.slice (some ⟨g, 0, none⟩) n cap) ++ (qs.take (k + 1)).flatMap qb) w w2) := ((unhide HSF).weak (fun x hx => by
            rw [unhide HTK]
            rcases List.mem_append.1 hx with h | h
            · exact List.mem_append.2 (.inl h)
            · exact List.mem_append.2 (.inr (List.mem_append.2 (.inl h))))).trans (hsf.weak (fun x hx => by
            rw [unhide HTK]
            exact List.mem_append.2 (.inr (List.mem_append.2 (.inr (hT2 x hx))))))
        have HM2 : Hid (w2.ownsRow B 3 1 q.ms.v q.r.mems.length (q.r.mems.map (Value.int .i64))) := owns_fr (unhide HM).2.1 hsf.fr (fun g' hg' e => by
          have := (List.nodup_append.1 (unhide HN).2).2.2 g' (mem_bl.2 e) g' (mem_bl.2 hg')
          exact this rfl)
        have HB2 : Hid (B ≤ w2.heap.size) := Nat.le_trans (unhide HBr) hsf.fr.size
        have c9 : w2.cell? ⟨g, k * 11 + 9, none⟩ = some (.slice q.ms.a q.ms.n q.ms.c) := hsf.fr.cell (fun e => (unhide HN).1 g (hT2 g e) rfl) (unhide C9)
        have HE2 := hide (numbers_sp B _ q.r.mems.length w2 (unhide HB2) (unhide HM).2.2.2 ⟨_, unhide HM2⟩)
        clear hsf hT2 HE C9 HSF HY HM HBr c8
        go_wp2_with fail
        refine (unhide HE2).mono ?_
        rintro e w3 ⟨rfl, hsf⟩
        have hT3 : ∀ x, q.ms.v.ownBlock = some x → x ∈ qb q := fun x hx => List.mem_append.2 (.inr (mem_bl.2 hx))
        have HY3 := hide (owns_fr (unhide HY2) hsf.fr (fun g' hg' e => (unhide HN).1 g' (hT3 g' e) (Option.some.inj hg').symm))
        have HS3 : Hid (SF (fun x => x ∈ bl (.slice (some ⟨g, 0, none⟩) n cap) ++ (qs.take (k + 1)).flatMap qb) w w3) := (unhide HS2).trans (hsf.weak (fun x hx => by
            rw [unhide HTK]
            exact List.mem_append.2 (.inr (List.mem_append.2 (.inr (hT3 x hx))))))
        clear hsf hT3 HE2 HS2 HY2 HM2 HB2 c9
        have HTH : Hid (w3.there g (k * 11) (mcs qm9).toArray.size) := fun j hj => by
          have hj : j < 11 := hj
          have hl : ys.length = n * 11 := (unhide HY3).1
          refine ⟨?_, (unhide HY3).frozenAt (k * 11 + j)⟩
          rw [(unhide HY3).cellAt (k * 11 + j) (by omega), List.getElem?_eq_getElem (by omega)]
          rfl
        go_upto_region 5 with fail
        iterate 7 go_step
        refine wpList_value rfl (rpc_build1 _ _ _ _ _ _ rfl _) ?_
        simp only [Act.put, List.setIfInBounds_toArray, List.set_cons_zero, List.set_cons_succ]
        iterate 3 go_step
        refine wpList_store_mid rfl 33 _ _ rfl g (k * 11) (mcs qm9).toArray rfl rfl (unhide HTH) rpc_size (mcs_all _) ?_
        simp only [Act.put]
        have HS4 : Hid (SF (fun x => x ∈ bl (.slice (some ⟨g, 0, none⟩) n cap) ++ (qs.take (k + 1)).flatMap qb) w (w3.setCells g (k * 11) (mcs qm9))) := (unhide HS3).trans (setCells_sf g (List.mem_append.2 (.inl (by rw [unhide HG]; exact List.mem_singleton.2 rfl))) _ _ _)
        obtain ⟨zs, hz, hzs⟩ := owns_setCells (mcs qm9) (k * 11) w3 ys (unhide HY3)
        have HZ := hide hz
        have HZS : Hid (∀ j, (k + 1) * 11 ≤ j → zs[j]? = (mrow qs)[j]?) := fun j hj => by
          rw [hzs j (by rw [mcs_len]; omega)]
          exact (unhide HYS) j (by omega)
        clear hz hzs HTH HS3 HY3 HYS
        generalize w3.setCells g (k * 11) (mcs qm9) = w4 at HS4 HZ ⊢
        go_wp2
        go_roundw
        case rel => exact ⟨k + 1, zs, by omega, by go_num, HS4, HZ, HZS⟩
        case measure => simp [intOf]; omega
      · have hkn : qs.take k = qs := List.take_of_length_le (by have := unhide HQL; omega)
        rw [hkn] at HSF
        have HAPP := hide (rapp B n _ w wr (fun x => x ∈ bl (.slice (some ⟨g, 0, none⟩) n cap) ++ qs.flatMap qb) i0 hi hz0 hz1 hz2 hn (Nat.le_trans hB (unhide HSF).fr.size) (unhide HSF) ⟨ys, unhide HY⟩ (fun g h => List.mem_append.2 (.inl (mem_bl.2 h))))
        clear HSF HY HYS HD HQL hkn
        go_upto_region 6 with fail
        iterate 4 go_step
        refine wpList_value rfl (rpc_build0 _ _ _ _ _ _) ?_
        simp only [Act.put, List.setIfInBounds_toArray, List.set_cons_zero, List.set_cons_succ]
        refine wpList_value rfl (rpc_slice _ _ _ _ _ _ qz rfl _) ?_
        simp only [Act.put, List.setIfInBounds_toArray, List.set_cons_zero, List.set_cons_succ]
        refine wpList_append_run _ (Z := fun _ w' => SF (fun x => x ∈ bl (.slice (some ⟨g, 0, none⟩) n cap) ++ qs.flatMap qb) w w') rfl _ _ 27 27 rfl _ _ rfl rfl ((unhide HAPP) _) ?_
        intro v' w1 hsf
        have HSF1 := hide hsf
        clear hsf HAPP
        simp only [Act.put, List.setIfInBounds_toArray, List.set_cons_zero, List.set_cons_succ]
        go_wp2
        go_end0
        exact ⟨rfl, (unhide HSF1).fr⟩
end Go.Proofs.Ytfgelagmjjjlgaa.Nt
