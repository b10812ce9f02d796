/- Proved here: what the statements of layer 14 share: wakes; a readable list of acts; LogWeight and heavy end, and what passes heavy is put at times that may be. Helper contracts. -/
import Derived.Test.YtfgelagmjjjlgaaZNTw
namespace Go.Proofs.Ytfgelagmjjjlgaa.Nt
open Go.RowKit
set_option maxRecDepth 100000

/-- a message without rows -/
def qk (k t : Int) : Mq := ⟨{ (default : Rp) with kind := k, term := t }, ⟨none, 0, 0⟩, ⟨none, 0, 0⟩⟩
theorem qk_rok (k t : Int) (w : World) : Rok w (qk k t) := ⟨⟨none, 0, rfl, .inl rfl⟩, ⟨none, 0, rfl, by simp [qk, default], .inl rfl⟩⟩
theorem qk_szs (k t : Int) : Szs (qk k t).r := ⟨by simp [qk, default], by simp [qk, default]⟩
theorem rpc_buildk (a : Act) (dst : Option Tmp) (x : Operand) (ty : TypeId) (pos : String) (after : Array Edge) (k : Int) (hx : a.eval x = .int .i64 k) (w : World) :
    (execOp a.eval ⟨dst, .build 33 #[(0, x)], ty, pos, after, none⟩).run Try.prog w = .ok (.value (.agg (mcs (qk k 0)).toArray)) w := by
  unfold execOp
  simp only [List.map_toArray, List.map_cons, List.map_nil, hx]
  kernel_rfl
/-- what stands by its times already is told as it stands -/
theorem told_id {C : List It} (h : C.Pairwise (fun x y => x.2 ≤ y.2)) : Told C C := by
  refine ⟨C.zipIdx, by simp, List.Perm.refl _, ?_⟩
  rw [List.pairwise_iff_getElem] at h ⊢
  intro i j hi hj hij
  simp only [List.length_zipIdx] at hi hj
  have := h i j hi hj hij
  simp only [List.getElem_zipIdx]
  omega
/-- what Take tells reads as messages -/
theorem Taken.rps {w : World} {B n : Nat} {v : Value} {ps : List Pc} {now : Int} {w' : World} {vt : Value} {ts : List Pc} {v' : Value} {rs : List Pc} (h : Taken w B n v ps now w' vt ts v' rs) : Rps w' vt (ts.map (·.q)) :=
  rps_of_own (by rw [List.length_map]; exact h.row) (fun q hq => by
    obtain ⟨p, hp, rfl⟩ := List.mem_map.1 hq
    exact ⟨(h.own p hp).rok, (h.own p hp).2.2⟩)
theorem dr_zero : dr 0 4 = 0 := by decide
set_option maxHeartbeats 4000000 in
theorem wakes_any (w : World) : Calls Try.prog 20 #[] w fun e w' => e = .returned (.bool true) ∧ Below w.heap.size w w' := by
  have HN := hide (new_any w)
  go_enter Try.func20, Try.ntmps20
  go_wp2_with fail
  refine (unhide HN).mono ?_
  rintro e w1 ⟨rfl, hs1, hb1⟩
  have HB1 : Hid (Below w.heap.size w w1) := hb1
  have hn1 : w.heap.size ≤ w1.heap.size := hb1.size
  have HS1 := hide hs1
  clear hs1 hb1 HN
  have HP := hide (put_any w1 w.heap.size w.heap.size _ [] (qk 1 0) 0 0 (unhide HS1) (fun w' _ => qk_rok 1 0 w') (qk_szs 1 0) (by decide) (by decide))
  go_upto_region 4 with fail
  iterate 4 go_step
  refine wpList_value rfl (rpc_buildk _ _ _ _ _ _ 1 rfl _) ?_
  simp only [Act.put, List.setIfInBounds_toArray, List.set_cons_zero, List.set_cons_succ]
  go_wp2_with fail
  refine (unhide HP).mono ?_
  rintro e w2 ⟨rfl, v2, ps2, hs2, hf2, he2, hit⟩
  have HIT : Hid (ps2.map it = [((qk 1 0).r, 1)]) := by
    show _ = _
    rw [hit]
    unfold putI
    rw [if_pos dr_zero]
    rfl
  have hlen : ps2.length ≤ 1000000 := by
    have := congrArg List.length (unhide HIT)
    simp at this
    omega
  have HS2 := hide hs2
  have HB2 : Hid (Below w.heap.size w w2) := Fr.bel (unhide HB1) hf2 (fun i hi => ((unhide HS1).lt i hi).1) hn1
  clear hs2 hf2 he2 hit HP HS1 HB1 hn1
  have HT := hide (take_any w2 w.heap.size w.heap.size v2 ps2 1 (unhide HS2) hlen (by decide) (by decide))
  go_wp2_with fail
  refine (unhide HT).mono ?_
  rintro e w3 ⟨vt, ts, v3, rs, rfl, ht⟩
  have HB3 : Hid (Below w.heap.size w w3) := Fr.bel (unhide HB2) (unhide ht).fr (fun i hi => ((unhide HS2).lt i hi).1) (unhide HB2).size
  have HTT := hide (unhide ht).rps
  have hts : ts.map it = [((qk 1 0).r, 1)] := by
    have h1 := (unhide ht).told
    rw [unhide HIT] at h1
    exact told_one h1 (by simpa using told_id (C := [((qk 1 0).r, (1 : Int))]) (by simp))
  have HR : Hid ((ts.map (·.q)).map (·.r) = [qk 1 0].map (·.r)) := by
    show _ = _
    have := congrArg (List.map Prod.fst) hts
    rw [List.map_map] at this
    rw [List.map_map]
    exact this
  have HL : Hid ((ts.map (·.q)).length ≤ 140737488351232) := by
    have := congrArg List.length hts
    simp at this
    show _ ≤ _
    simp [this]
  clear ht HT hts HS2 HB2 hlen HIT
  generalize ts.map (·.q) = qs at HTT HR HL
  dsimp only
  go_step
  refine wpList_value rfl (rpc_buildk _ _ _ _ _ _ 1 rfl _) ?_
  simp only [Act.put, List.setIfInBounds_toArray, List.set_cons_zero, List.set_cons_succ]
  refine wpList_value rfl (rpc_slice _ _ _ _ _ _ (qk 1 0) rfl _) ?_
  simp only [Act.put, List.setIfInBounds_toArray, List.set_cons_zero, List.set_cons_succ]
  have hal : Below w3.heap.size w3 (w3.alloc (.cells (mcs (qk 1 0)).toArray 33)) := (Below.refl _ _).alloc (Nat.le_refl _) _
  have HX : Hid (Rps (w3.alloc (.cells (mcs (qk 1 0)).toArray 33)) (.slice (some ⟨w3.heap.size, 0, none⟩) 1 1) [qk 1 0]) := ⟨_, 1, rfl, .inr ⟨w3.heap.size, 0, rfl, fun k hk => by
    have hk0 : k = 0 := by simpa using hk
    subst hk0
    exact ⟨(Bx.new w3 (mcs (qk 1 0)) 33 _ rfl).range, qk_rok 1 0 _, qk_szs 1 0⟩⟩⟩
  have HT4 := hide ((unhide HTT).below hal)
  have HB4 : Hid (Below w.heap.size w (w3.alloc (.cells (mcs (qk 1 0)).toArray 33))) := bnx (unhide HB3) hal
  generalize w3.alloc (.cells (mcs (qk 1 0)).toArray 33) = w4 at HX HT4 HB4 ⊢
  generalize w3.heap.size = X at HX ⊢
  clear hal HTT HB3
  have HE := hide (eqrs_same _ _ _ _ w4 (unhide HR) (unhide HT4) (unhide HX) (unhide HL))
  go_wp2_with fail
  refine (unhide HE).mono ?_
  rintro e w5 ⟨rfl, hb5⟩
  have HB5 : Hid (Below w.heap.size w w5) := bnx (unhide HB4) hb5
  clear hb5 HE
  go_wp2
  go_ret
  exact ⟨rfl, unhide HB5⟩
end Go.Proofs.Ytfgelagmjjjlgaa.Nt
