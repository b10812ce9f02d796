/- Proved here: rpc's reader.message: a message read off bytes, in memory of its own. Helper contract. -/
import Derived.Test.YtmmhdhpocjnlbaaGreatDoorZJRp
import Derived.Test.YtmmhdhpocjnlbaaGreatDoorZKTk
import Derived.Deep.Cut
import Derived.Deep.CutRange
import Derived.Deep.CutBlock
import Derived.Deep.RegionHeld3
import Derived.Laws.AppendOwnNone
namespace Go.Proofs.YtmmhdhpocjnlbaaGreatDoor.Jr
open Go.RowKit Nt Et Qu
set_option maxRecDepth 100000

theorem infoI : (Tryz.prog.info? 3).map (fun i => (i.zero, i.size, i.bytes)) = some (some (.int .i64 0), 1, 8) := by kernel_rfl
theorem step_app1 {w : World} {ops : Array Oper} {o : Oper} {a : Act} {K : Act → World → Prop} {Q : Exit → Act → World → Prop} {E : Prop} (hgd : o.guard = none) (s x : Operand)
    (ho : o.op = .call { callee := .builtin .append, args := #[s, x], argTypes := #[25, 25] })
    (base : Nat) (v : Value) (n : Nat) (xs : List Int) (hs : a.eval s = v) (hown : w.ownsRow base 3 1 v n (xs.map (Value.int .i64))) (g : Nat) (y : Int) (hx : a.eval x = .slice (some ⟨g, 0, none⟩) 1 1) (hy : w.cell? ⟨g, 0, none⟩ = some (.int .i64 y))
    (hn : n ≤ 1000000) (hbase : base ≤ w.heap.size)
    (h : ∀ v' w', w'.ownsRow base 3 1 v' (n + 1) ((xs ++ [y]).map (Value.int .i64)) → w.grownBy w' v.ownBlock → K (a.put o.dst v') w') :
    if Region.wanted o (yielded ops a.tmps) = true then Oper.wp Tryz.prog o a w K Q else E := by
  have hw : Region.wanted o (yielded ops a.tmps) = true := by simp [Region.wanted, hgd]
  rw [if_pos hw]
  obtain ⟨i0, hi, hz0, hz1, hz2⟩ := info_parts infoI
  obtain ⟨v', w', hr, h2, h3, _⟩ := run_append_own (P := Tryz.prog) w base 25 o.type 3 i0 (.int .i64 0) 1 8 Tryz.underlying25 hi hz0 hz1 hz2 rfl (by decide) v n _ hown ⟨g, 0, none⟩ 1 1 [.int .i64 y] rfl
    (fun j u hj => by
      match j, hj with
      | 0, hj => cases hj; exact hy)
    (fun u hu => by simp at hu; subst hu; rfl) (by unfold maxLen; omega) (by omega) hbase
  unfold Oper.wp execOp
  simp only [ho, resolve, invoke, builtin, Sem.run_bind, Sem.run_pure, Result.andThen_ok, List.map_toArray, List.map_cons, List.map_nil, hs, hx, hr]
  exact h v' w' (by rw [List.map_append]; exact h2) h3
def put4 (w : World) (R : Nat) (a b c d : Value) : World := (((w.setCell ⟨R, 0, none⟩ a).setCell ⟨R, 1, none⟩ b).setCell ⟨R, 2, none⟩ c).setCell ⟨R, 3, none⟩ d
theorem put4_bx {w : World} {R : Nat} {a b c d : Value} {t : TypeId} (h : Bx w R [a, b, c, d] t) (x y z u : Value) : Bx (put4 w R x y z u) R [x, y, z, u] t :=
  (((h.set 0 x (by simp)).set 1 y (by simp)).set 2 z (by simp)).set 3 u (by simp)
theorem put4_fr (w : World) (R : Nat) (x y z u : Value) : Fr (fun k => k = R) w (put4 w R x y z u) := (((set_fr (F := fun k => k = R) rfl).trans (set_fr (F := fun k => k = R) rfl)).trans (set_fr (F := fun k => k = R) rfl)).trans (set_fr (F := fun k => k = R) rfl)
theorem bx4_slot {w : World} {R : Nat} {a b c d : Value} {t : TypeId} (h : Bx w R [a, b, c, d] t) : (w.cell? ⟨R, 0, none⟩ = some a ∧ w.cell? ⟨R, 1, none⟩ = some b ∧ w.cell? ⟨R, 2, none⟩ = some c ∧ w.cell? ⟨R, 3, none⟩ = some d) ∧ w.frozen? ⟨R, 0, none⟩ = false ∧ w.frozen? ⟨R, 1, none⟩ = false ∧ w.frozen? ⟨R, 2, none⟩ = false ∧ w.frozen? ⟨R, 3, none⟩ = false :=
  ⟨⟨h.cell 0 _ rfl, h.cell 1 _ rfl, h.cell 2 _ rfl, h.cell 3 _ rfl⟩, h.frz 0, h.frz 1, h.frz 2, h.frz 3⟩
theorem ens_len (ix : Int) (s : St) (k : Nat) : (ens ix s k).1.length = k := by
  induction k with
  | zero => rfl
  | succ k ih => show ((ens ix s k).1 ++ [_]).length = _; rw [List.length_append, ih]; rfl
theorem mms_len (s : St) (k : Nat) : (mms s k).1.length = k := by
  induction k with
  | zero => rfl
  | succ k ih => show ((mms s k).1 ++ [_]).length = _; rw [List.length_append, ih]; rfl
theorem ens_succ {ix : Int} {s s1 s2 s3 s4 : St} {k : Nat} {l : List En} {a b : Int} {c : ByteArray} (h : ens ix s k = (l, s1)) (h1 : nu 1 s1 = (a, s2)) (h2 : nu 5 s2 = (b, s3)) (h3 : tx 2 s3 = (c, s4)) : ens ix s (k + 1) = (l ++ [(ix + 1 + (k : Int), b, a, c)], s4) := by
  show ((ens ix s k).1 ++ [(en1 (ix + 1 + (k : Int)) (ens ix s k).2).1], (en1 (ix + 1 + (k : Int)) (ens ix s k).2).2) = _
  rw [h]
  dsimp only
  unfold en1
  rw [h1]
  dsimp only
  rw [h2]
  dsimp only
  rw [h3]
theorem mms_succ {s s1 s2 : St} {k : Nat} {l : List Int} {a : Int} (h : mms s k = (l, s1)) (h1 : nu 1 s1 = (a, s2)) : mms s (k + 1) = (l ++ [a], s2) := by
  show ((mms s k).1 ++ [(nu 1 (mms s k).2).1], (nu 1 (mms s k).2).2) = _
  rw [h]
  dsimp only
  rw [h1]
theorem ecs_app1 (l : List En) (i t k : Int) (d : ByteArray) : ecs (l ++ [(i, t, k, d)]) = ecs l ++ [.int .i64 i, .int .i64 t, .int .i64 k, .string d] := by
  unfold ecs
  rw [List.flatMap_append]
  rfl
/-- what message tells -/
def MsR (r : Nat) (s : St) (e : Ending) (w w' : World) : Prop := ∃ (q : Mq) (z : St), e = .returned (.agg (mcs q).toArray) ∧ Hid (MsgIs s q.r z) ∧ Hid (MqOwn w' w.heap.size q) ∧ Hid (RdAt w' r z) ∧ Hid (Fr (fun k => k = r) w w')
set_option maxHeartbeats 8000000 in
theorem message_any (r : Nat) (s : St) (w : World) (hr : r < w.heap.size) (h : RdAt w r s) :
    Calls Tryz.prog 43 #[.pointer (some ⟨r, 0, none⟩)] w fun e w' => MsR r s e w w' := by
  obtain ⟨i0, hi, hz0, hz1, hz2⟩ := info_parts infoEnt
  obtain ⟨kd, s1, hs1⟩ : ∃ a b, nu 1 s = (a, b) := ⟨_, _, rfl⟩
  have Ns1 := hide hs1
  obtain ⟨fm, s2, hs2⟩ : ∃ a b, nu 1 s1 = (a, b) := ⟨_, _, rfl⟩
  have Ns2 := hide hs2
  obtain ⟨tt, s3, hs3⟩ : ∃ a b, nu 1 s2 = (a, b) := ⟨_, _, rfl⟩
  have Ns3 := hide hs3
  obtain ⟨ok, s4, hs4⟩ : ∃ a b, fg s3 = (a, b) := ⟨_, _, rfl⟩
  have Ns4 := hide hs4
  obtain ⟨te, s5, hs5⟩ : ∃ a b, nu 5 s4 = (a, b) := ⟨_, _, rfl⟩
  have Ns5 := hide hs5
  obtain ⟨ix, s6, hs6⟩ : ∃ a b, nu 5 s5 = (a, b) := ⟨_, _, rfl⟩
  have Ns6 := hide hs6
  obtain ⟨lt, s7, hs7⟩ : ∃ a b, nu 5 s6 = (a, b) := ⟨_, _, rfl⟩
  have Ns7 := hide hs7
  obtain ⟨co, s8, hs8⟩ : ∃ a b, nu 5 s7 = (a, b) := ⟨_, _, rfl⟩
  have Ns8 := hide hs8
  obtain ⟨nn, s9, hs9⟩ : ∃ a b, nu 1 s8 = (a, b) := ⟨_, _, rfl⟩
  have Ns9 := hide hs9
  obtain ⟨es, sa, hsa⟩ : ∃ a b, ens ix s9 nn.toNat = (a, b) := ⟨_, _, rfl⟩
  have Nsa := hide hsa
  obtain ⟨kk, sb, hsb⟩ : ∃ a b, nu 1 sa = (a, b) := ⟨_, _, rfl⟩
  have Nsb := hide hsb
  obtain ⟨mm, sc, hsc⟩ : ∃ a b, mms sb kk.toNat = (a, b) := ⟨_, _, rfl⟩
  have Nsc := hide hsc
  obtain ⟨dt, sd, hsd⟩ : ∃ a b, tx 4 sc = (a, b) := ⟨_, _, rfl⟩
  have Nsd := hide hsd
  have HMS : Hid (MsgIs s ⟨kd, fm, tt, te, ix, lt, co, ok, es, mm, dt⟩ sd) := ⟨_, _, _, _, _, _, _, _, _, _, _, _, _, _, hs1, hs2, hs3, hs4, hs5, hs6, hs7, hs8, hs9, hsa, hsb, hsc, hsd⟩
  clear hs1 hs2 hs3 hs4 hs5 hs6 hs7 hs8 hs9 hsa hsb hsc hsd
  obtain ⟨R, hR⟩ : ∃ R, R = w.heap.size := ⟨_, rfl⟩
  have HBR : Hid (Bx (w.alloc (.cells rz.toArray 27)) R rz 27) := Bx.new w rz 27 R hR
  have hal : Fr (fun _ => False) w (w.alloc (.cells rz.toArray 27)) := Fr.alloc _ _ _
  have HR0 : Hid (RdAt (w.alloc (.cells rz.toArray 27)) r s) := h.fr hal (fun _ _ h => h)
  have HF0 : Hid (Fr (fun k => k = r) w (w.alloc (.cells rz.toArray 27))) := Fr.alloc _ _ _
  have hrR : r < R := by omega
  go_enter Tryz.func43, Tryz.ntmps43
  go_upto_region 1 with fail
  change Code.wp _ _ _ _ (w.alloc (.cells rz.toArray 27))
  rw [← hR]
  generalize w.alloc (.cells rz.toArray 27) = w0 at HBR HR0 HF0 ⊢
  have hRw : w.heap.size ≤ R := by omega
  clear hR h hal
  go_wp2_with fail
  refine (num_any r 1 s _ (by omega) (unhide HR0)).mono ?_
  rw [unhide Ns1]
  rintro e w1 ⟨rfl, HD0, HE0⟩
  have HB0 := hide ((unhide HBR).fr (unhide HE0) (by omega))
  have HF1 : Hid (Fr (fun k => k = r) w w1) := (unhide HF0).trans (unhide HE0)
  clear HR0 HF0 HBR HE0
  go_wp2_with fail
  refine (num_any r 1 s1 _ (by omega) (unhide HD0)).mono ?_
  rw [unhide Ns2]
  rintro e w2 ⟨rfl, HD1, HE1⟩
  have HB1 := hide ((unhide HB0).fr (unhide HE1) (by omega))
  have HF2 : Hid (Fr (fun k => k = r) w w2) := (unhide HF1).trans (unhide HE1)
  clear HD0 HF1 HB0 HE1
  go_wp2_with fail
  refine (num_any r 1 s2 _ (by omega) (unhide HD1)).mono ?_
  rw [unhide Ns3]
  rintro e w3 ⟨rfl, HD2, HE2⟩
  have HB2 := hide ((unhide HB1).fr (unhide HE2) (by omega))
  have HF3 : Hid (Fr (fun k => k = r) w w3) := (unhide HF2).trans (unhide HE2)
  clear HD1 HF2 HB1 HE2
  go_wp2_with fail
  refine (flag_any r s3 _ (unhide HD2)).mono ?_
  rw [unhide Ns4]
  rintro e w4 ⟨rfl, HD3, HE3⟩
  have HB3 := hide ((unhide HB2).fr (unhide HE3) (by omega))
  have HF4 : Hid (Fr (fun k => k = r) w w4) := (unhide HF3).trans (unhide HE3)
  clear HD2 HF3 HB2 HE3
  obtain ⟨M, hM⟩ : ∃ M, M = w4.heap.size := ⟨_, rfl⟩
  have HMB : Hid (Bx (w4.alloc (.cells (mcs (mqk kd fm tt ok)).toArray 27)) M (mcs (mqk kd fm tt ok)) 27) := Bx.new _ _ _ _ hM
  have hRM : R < M := by rw [hM]; exact (unhide HB3).lt
  have hal : Fr (fun _ => False) w4 (w4.alloc (.cells (mcs (mqk kd fm tt ok)).toArray 27)) := Fr.alloc _ _ _
  have HG : Hid (MG w (w4.alloc (.cells (mcs (mqk kd fm tt ok)).toArray 27)) r M R s4 (mc kd fm tt 0 0 0 0 ok (.slice none 0 0) (.slice none 0 0) ⟨#[]⟩)) := ⟨(unhide HD3).fr hal (fun _ _ h => h), unhide HMB, (unhide HB3).fr hal (fun h => h), (unhide HF4).trans' hal (fun _ _ h => h.elim), hr, hRw, hRM⟩
  go_simp
  go_step
  refine Nt.wpList_value rfl (rpc_build4 kd fm tt ok _ _ _ _ _ _ _ _ _ rfl rfl rfl rfl _) ?_
  simp only [Act.put, List.setIfInBounds_toArray, List.set_cons_zero, List.set_cons_succ]
  refine Nt.wpList_value rfl (rpc_alloc _ _ _ _ _ _) ?_
  simp only [Act.put, List.setIfInBounds_toArray, List.set_cons_zero, List.set_cons_succ]
  refine Nt.wpList_skip rfl (rpc_store _ _ _ _ _ _ _ (mqk kd fm tt ok) w4 rfl rfl) ?_
  simp only [Act.put]
  rw [← hM]
  generalize w4.alloc (.cells (mcs (mqk kd fm tt ok)).toArray 27) = w5 at HG ⊢
  clear hM HMB HD3 HB3 HF4 hal
  go_wp2_with fail
  refine (num_any r 5 s4 _ (by omega) (unhide HG).rd).mono ?_
  rw [unhide Ns5]
  rintro e w6 ⟨rfl, HD, HE⟩
  have HGw6 := hide ((unhide HG).call (unhide HE) (unhide HD))
  have c3 := (unhide HGw6).m.cell 3 _ rfl
  have f3 := (unhide HGw6).m.frz 3
  clear HG HD HE
  go_upto_region 3 with fail
  have HGw7 : Hid (MG w (w6.setCell ⟨M, 3, none⟩ (.int .i64 te)) r M R s5 (mc kd fm tt te 0 0 0 ok (.slice none 0 0) (.slice none 0 0) ⟨#[]⟩)) := (unhide HGw6).set 3 _ (by simp)
  generalize w6.setCell ⟨M, 3, none⟩ (.int .i64 te) = w7 at HGw7 ⊢
  clear c3 f3 HGw6
  go_wp2_with fail
  refine (num_any r 5 s5 _ (by omega) (unhide HGw7).rd).mono ?_
  have hix := nu_range (k := 5) (unhide HGw7).rd.r8
  rw [unhide Ns6] at hix
  rw [unhide Ns6]
  rintro e w8 ⟨rfl, HD, HE⟩
  have HGw8 := hide ((unhide HGw7).call (unhide HE) (unhide HD))
  have c4 := (unhide HGw8).m.cell 4 _ rfl
  have f4 := (unhide HGw8).m.frz 4
  clear HGw7 HD HE
  go_upto_region 4 with fail
  have HGw9 : Hid (MG w (w8.setCell ⟨M, 4, none⟩ (.int .i64 ix)) r M R s6 (mc kd fm tt te ix 0 0 ok (.slice none 0 0) (.slice none 0 0) ⟨#[]⟩)) := (unhide HGw8).set 4 _ (by simp)
  generalize w8.setCell ⟨M, 4, none⟩ (.int .i64 ix) = w9 at HGw9 ⊢
  clear c4 f4 HGw8
  go_wp2_with fail
  refine (num_any r 5 s6 _ (by omega) (unhide HGw9).rd).mono ?_
  rw [unhide Ns7]
  rintro e w10 ⟨rfl, HD, HE⟩
  have HGw10 := hide ((unhide HGw9).call (unhide HE) (unhide HD))
  have c5 := (unhide HGw10).m.cell 5 _ rfl
  have f5 := (unhide HGw10).m.frz 5
  clear HGw9 HD HE
  go_upto_region 5 with fail
  have HGw11 : Hid (MG w (w10.setCell ⟨M, 5, none⟩ (.int .i64 lt)) r M R s7 (mc kd fm tt te ix lt 0 ok (.slice none 0 0) (.slice none 0 0) ⟨#[]⟩)) := (unhide HGw10).set 5 _ (by simp)
  generalize w10.setCell ⟨M, 5, none⟩ (.int .i64 lt) = w11 at HGw11 ⊢
  clear c5 f5 HGw10
  go_wp2_with fail
  refine (num_any r 5 s7 _ (by omega) (unhide HGw11).rd).mono ?_
  rw [unhide Ns8]
  rintro e w12 ⟨rfl, HD, HE⟩
  have HGw12 := hide ((unhide HGw11).call (unhide HE) (unhide HD))
  have c6 := (unhide HGw12).m.cell 6 _ rfl
  have f6 := (unhide HGw12).m.frz 6
  clear HGw11 HD HE
  go_upto_region 6 with fail
  have HGw13 : Hid (MG w (w12.setCell ⟨M, 6, none⟩ (.int .i64 co)) r M R s8 (mc kd fm tt te ix lt co ok (.slice none 0 0) (.slice none 0 0) ⟨#[]⟩)) := (unhide HGw12).set 6 _ (by simp)
  generalize w12.setCell ⟨M, 6, none⟩ (.int .i64 co) = w13 at HGw13 ⊢
  clear c6 f6 HGw12
  go_wp2_with fail
  refine (num_any r 1 s8 _ (by omega) (unhide HGw13).rd).mono ?_
  have hnn := nu_range (k := 1) (unhide HGw13).rd.r8
  rw [unhide Ns9] at hnn
  rw [unhide Ns9]
  rintro e wn ⟨rfl, HD, HE⟩
  have HGn := hide ((unhide HGw13).call (unhide HE) (unhide HD))
  clear HGw13 HD HE
  dsimp only at hnn hix
  simp only [Int.reducePow] at hnn hix
  obtain ⟨n, rfl⟩ := Int.eq_ofNat_of_zero_le hnn.1
  have hn : n ≤ 255 := by omega
  rw [Int.toNat_natCast] at Nsa
  have hle := ens_len ix s9 n
  rw [unhide Nsa] at hle
  have HLE := hide hle
  clear hnn hle
  go_wp2
  go_loopw [29] (fun i wr => ∃ (k : Nat) (ve : Value) (l : List En) (z : St), k ≤ n ∧ i = .int .i64 k ∧ Hid (ens ix s9 k = (l, z)) ∧ Hid (wr.ownsRow (M + 1) 56 4 ve k (ecs l)) ∧ Hid (MG w wr r M R z (mc kd fm tt te ix lt co ok ve (.slice none 0 0) ⟨#[]⟩))) (fun i _ => n - (intOf i).toNat)
  case atStart => exact ⟨0, _, [], s9, Nat.zero_le _, rfl, rfl, World.ownsRow_nil _ _ _ _, HGn⟩
  case round =>
    obtain ⟨k, ve, l, z, hk, rfl, HEN, HOWN, HGr⟩ := hrel
    by_cases hlt : k < n
    · obtain ⟨ea, z1, hz1⟩ : ∃ a b, nu 1 z = (a, b) := ⟨_, _, rfl⟩
      have M1 := hide hz1
      obtain ⟨eb, z2, hz2⟩ : ∃ a b, nu 5 z1 = (a, b) := ⟨_, _, rfl⟩
      have M2 := hide hz2
      obtain ⟨ec, z3, hz3⟩ : ∃ a b, tx 2 z2 = (a, b) := ⟨_, _, rfl⟩
      have M3 := hide hz3
      have HEN1 := hide (ens_succ (unhide HEN) hz1 hz2 hz3)
      clear hz1 hz2 hz3
      have hw1 : IntKind.i64.wrap (ix + 1) = ix + 1 := by rw [IntKind.wrap_i64]; omega
      have hw2 : IntKind.i64.wrap (ix + 1 + (k : Int)) = ix + 1 + (k : Int) := by rw [IntKind.wrap_i64]; omega
      have hv1 : wrap64 (ix + 1) = ix + 1 := by unfold wrap64; omega
      have hv2 : wrap64 (ix + 1 + (k : Int)) = ix + 1 + (k : Int) := by unfold wrap64; omega
      have hs : M < wr.heap.size := (unhide HGr).m.lt
      go_upto_region 9 with fail
      go_cut [5] from 30 to 50 (fun s5 wx => ∃ X : Nat, s5 = .pointer (some ⟨X, 0, none⟩) ∧ Hid (Bx wx X [.int .i64 (ix + 1 + (k : Int)), .int .i64 eb, .int .i64 ea, .string ec] 56) ∧ M < X ∧ Hid (MG w wx r M R z3 (mc kd fm tt te ix lt co ok ve (.slice none 0 0) ⟨#[]⟩)) ∧ Hid (Fr (fun k => k = r) wr wx))
      case first =>
        refine wp_region_noPanic ?_
        refine wp_region_held_drew (S := fun W => W.cell? ⟨M, 4, none⟩ = some (.int .i64 ix)) (by kernel_rfl) ((unhide HGr).m.cell 4 _ rfl) (fun hHwd => ?_)
        refine rtk 0 (h := ?_)
        refine rtk 1 (h := ?_)
        refine rtk 2 (h := ?_)
        refine rtk 3 (h := ?_)
        refine rtk 4 (h := ?_)
        refine rtk 5 (h := ?_)
        refine rtk 7 (h := ?_)
        refine rtk 9 (h := ?_)
        have HGwd := hide ((unhide HGr).grow (below_drewN (Below.refl _ _) 1))
        change Hid (MG w wr.drew r M R z (mc kd fm tt te ix lt co ok ve (.slice none 0 0) ⟨#[]⟩)) at HGwd
        have HQwd : Hid (Fr (fun k => k = r) wr wr.drew) := Fr.drewN _ wr 1
        generalize wr.drew = wd at HGwd hHwd HQwd ⊢
        refine wpAnyH_ready (rs := [6, 12]) (by kernel_rfl) (by simp) (rac (h := fun K hK => ?_) (hs := rac (h := fun K hK => ?_) (hs := AllReadyH.nil)))
        · go_simp
          refine (num_any r 1 z _ (by omega) (unhide HGwd).rd).mono ?_
          rw [unhide M1]
          rintro e v1 ⟨rfl, HD, HE⟩
          have HGv1 := hide ((unhide HGwd).call (unhide HE) (unhide HD))
          have HQv1 : Hid (Fr (fun k => k = r) wr v1) := (unhide HQwd).trans (unhide HE)
          refine hK.out _ _ ((unhide HGv1).m.cell 4 _ rfl) (fun hHv1 => ?_)
          clear hK K hHwd HGwd HQwd HD HE
          refine wpAnyH_ready (rs := [8, 12]) (by kernel_rfl) (by simp) (rac (h := fun K hK => ?_) (hs := rac (h := fun K hK => ?_) (hs := AllReadyH.nil)))
          · go_simp
            refine (num_any r 5 z1 _ (by omega) (unhide HGv1).rd).mono ?_
            rw [unhide M2]
            rintro e v2 ⟨rfl, HD, HE⟩
            have HGv2 := hide ((unhide HGv1).call (unhide HE) (unhide HD))
            have HQv2 : Hid (Fr (fun k => k = r) wr v2) := (unhide HQv1).trans (unhide HE)
            refine hK.out _ _ ((unhide HGv2).m.cell 4 _ rfl) (fun hHv2 => ?_)
            clear hK K hHv1 HGv1 HQv1 HD HE
            refine wpAnyH_ready (rs := [10, 12]) (by kernel_rfl) (by simp) (rac (h := fun K hK => ?_) (hs := rac (h := fun K hK => ?_) (hs := AllReadyH.nil)))
            · go_simp
              refine (text_any r 2 z2 _ (by omega) (unhide HGv2).rd).mono ?_
              rw [unhide M3]
              rintro e v3 ⟨rfl, HD, HE⟩
              have HGv3 := hide ((unhide HGv2).call (unhide HE) (unhide HD))
              have HQv3 : Hid (Fr (fun k => k = r) wr v3) := (unhide HQv2).trans (unhide HE)
              refine hK.out _ _ ((unhide HGv3).m.cell 4 _ rfl) (fun hHv3 => ?_)
              clear hK K hHv2 HGv2 HQv2 HD HE
              refine rtk 11 (h := ?_)
              refine rcl 12 (h := fun K hK => ?_)
              go_simp
              obtain ⟨X, hX⟩ : ∃ X, X = v3.heap.size := ⟨_, rfl⟩
              have HXv4 : Hid (Bx (v3.alloc (.cells #[.int .i64 0, .int .i64 0, .int .i64 0, .string ⟨#[]⟩] 56)) X [.int .i64 0, .int .i64 0, .int .i64 0, .string ⟨#[]⟩] 56) := Bx.new _ _ _ _ hX
              have HGv4 := hide ((unhide HGv3).grow ((Below.refl _ _).alloc (Nat.le_refl _) (.cells #[.int .i64 0, .int .i64 0, .int .i64 0, .string ⟨#[]⟩] 56)))
              have HQv4 : Hid (Fr (fun k => k = r) wr (v3.alloc (.cells #[.int .i64 0, .int .i64 0, .int .i64 0, .string ⟨#[]⟩] 56))) := (unhide HQv3).trans (Fr.alloc _ _ _)
              have hXM : M < X := by rw [hX]; exact (unhide HGv3).m.lt
              have hXr : wr.heap.size ≤ X := by rw [hX]; exact (unhide HQv3).size
              refine hK.out _ _ ((unhide HGv4).m.cell 4 _ rfl) (fun hHv4 => ?_)
              rw [← hX]
              clear hK K hHv3 HGv3 HQv3 hX
              generalize v3.alloc (.cells #[.int .i64 0, .int .i64 0, .int .i64 0, .string ⟨#[]⟩] 56) = v4 at HXv4 HGv4 HQv4 hHv4 ⊢
              obtain ⟨⟨q0, q1, q2, q3⟩, qf0, qf1, qf2, qf3⟩ := bx4_slot (unhide HXv4)
              refine rcl 13 (h := fun K hK => ?_)
              go_simp
              have HGz := hide ((unhide HGv4).beyond (put4_fr v4 X (.int .i64 (ix + 1 + (k : Int))) (.int .i64 eb) (.int .i64 ea) (.string ec)) (fun k e => by omega))
              refine hK.out _ _ ((unhide HGz).m.cell 4 _ rfl) (fun _ => ?_)
              clear hK K
              refine wpAnyH_done (by kernel_rfl) ?_ _
              refine NoPanic.normal ?_
              go_wp2_with fail
              go_meet
              case rel => exact ⟨X, rfl, put4_bx (unhide HXv4) _ _ _ _, hXM, HGz, (unhide HQv4).trans' (put4_fr _ _ _ _ _ _) (fun i hi e => by omega)⟩
            · go_simp
              obtain ⟨X, hX⟩ : ∃ X, X = v2.heap.size := ⟨_, rfl⟩
              have HXv5 : Hid (Bx (v2.alloc (.cells #[.int .i64 0, .int .i64 0, .int .i64 0, .string ⟨#[]⟩] 56)) X [.int .i64 0, .int .i64 0, .int .i64 0, .string ⟨#[]⟩] 56) := Bx.new _ _ _ _ hX
              have HGv5 := hide ((unhide HGv2).grow ((Below.refl _ _).alloc (Nat.le_refl _) (.cells #[.int .i64 0, .int .i64 0, .int .i64 0, .string ⟨#[]⟩] 56)))
              have HQv5 : Hid (Fr (fun k => k = r) wr (v2.alloc (.cells #[.int .i64 0, .int .i64 0, .int .i64 0, .string ⟨#[]⟩] 56))) := (unhide HQv2).trans (Fr.alloc _ _ _)
              have hXM : M < X := by rw [hX]; exact (unhide HGv2).m.lt
              have hXr : wr.heap.size ≤ X := by rw [hX]; exact (unhide HQv2).size
              refine hK.out _ _ ((unhide HGv5).m.cell 4 _ rfl) (fun hHv5 => ?_)
              rw [← hX]
              clear hK K hHv2 HGv2 HQv2 hX
              generalize v2.alloc (.cells #[.int .i64 0, .int .i64 0, .int .i64 0, .string ⟨#[]⟩] 56) = v5 at HXv5 HGv5 HQv5 hHv5 ⊢
              refine rcl 10 (h := fun K hK => ?_)
              go_simp
              refine (text_any r 2 z2 _ (by omega) (unhide HGv5).rd).mono ?_
              rw [unhide M3]
              rintro e v6 ⟨rfl, HD, HE⟩
              have HGv6 := hide ((unhide HGv5).call (unhide HE) (unhide HD))
              have HQv6 : Hid (Fr (fun k => k = r) wr v6) := (unhide HQv5).trans (unhide HE)
              have HXv6 := hide ((unhide HXv5).fr (unhide HE) (by omega))
              clear HXv5
              refine hK.out _ _ ((unhide HGv6).m.cell 4 _ rfl) (fun hHv6 => ?_)
              clear hK K hHv5 HGv5 HQv5 HD HE
              refine rtk 11 (h := ?_)
              obtain ⟨⟨q0, q1, q2, q3⟩, qf0, qf1, qf2, qf3⟩ := bx4_slot (unhide HXv6)
              refine rcl 13 (h := fun K hK => ?_)
              go_simp
              have HGz := hide ((unhide HGv6).beyond (put4_fr v6 X (.int .i64 (ix + 1 + (k : Int))) (.int .i64 eb) (.int .i64 ea) (.string ec)) (fun k e => by omega))
              refine hK.out _ _ ((unhide HGz).m.cell 4 _ rfl) (fun _ => ?_)
              clear hK K
              refine wpAnyH_done (by kernel_rfl) ?_ _
              refine NoPanic.normal ?_
              go_wp2_with fail
              go_meet
              case rel => exact ⟨X, rfl, put4_bx (unhide HXv6) _ _ _ _, hXM, HGz, (unhide HQv6).trans' (put4_fr _ _ _ _ _ _) (fun i hi e => by omega)⟩
          · go_simp
            obtain ⟨X, hX⟩ : ∃ X, X = v1.heap.size := ⟨_, rfl⟩
            have HXv7 : Hid (Bx (v1.alloc (.cells #[.int .i64 0, .int .i64 0, .int .i64 0, .string ⟨#[]⟩] 56)) X [.int .i64 0, .int .i64 0, .int .i64 0, .string ⟨#[]⟩] 56) := Bx.new _ _ _ _ hX
            have HGv7 := hide ((unhide HGv1).grow ((Below.refl _ _).alloc (Nat.le_refl _) (.cells #[.int .i64 0, .int .i64 0, .int .i64 0, .string ⟨#[]⟩] 56)))
            have HQv7 : Hid (Fr (fun k => k = r) wr (v1.alloc (.cells #[.int .i64 0, .int .i64 0, .int .i64 0, .string ⟨#[]⟩] 56))) := (unhide HQv1).trans (Fr.alloc _ _ _)
            have hXM : M < X := by rw [hX]; exact (unhide HGv1).m.lt
            have hXr : wr.heap.size ≤ X := by rw [hX]; exact (unhide HQv1).size
            refine hK.out _ _ ((unhide HGv7).m.cell 4 _ rfl) (fun hHv7 => ?_)
            rw [← hX]
            clear hK K hHv1 HGv1 HQv1 hX
            generalize v1.alloc (.cells #[.int .i64 0, .int .i64 0, .int .i64 0, .string ⟨#[]⟩] 56) = v7 at HXv7 HGv7 HQv7 hHv7 ⊢
            refine rcl 8 (h := fun K hK => ?_)
            go_simp
            refine (num_any r 5 z1 _ (by omega) (unhide HGv7).rd).mono ?_
            rw [unhide M2]
            rintro e v8 ⟨rfl, HD, HE⟩
            have HGv8 := hide ((unhide HGv7).call (unhide HE) (unhide HD))
            have HQv8 : Hid (Fr (fun k => k = r) wr v8) := (unhide HQv7).trans (unhide HE)
            have HXv8 := hide ((unhide HXv7).fr (unhide HE) (by omega))
            clear HXv7
            refine hK.out _ _ ((unhide HGv8).m.cell 4 _ rfl) (fun hHv8 => ?_)
            clear hK K hHv7 HGv7 HQv7 HD HE
            refine rcl 10 (h := fun K hK => ?_)
            go_simp
            refine (text_any r 2 z2 _ (by omega) (unhide HGv8).rd).mono ?_
            rw [unhide M3]
            rintro e v9 ⟨rfl, HD, HE⟩
            have HGv9 := hide ((unhide HGv8).call (unhide HE) (unhide HD))
            have HQv9 : Hid (Fr (fun k => k = r) wr v9) := (unhide HQv8).trans (unhide HE)
            have HXv9 := hide ((unhide HXv8).fr (unhide HE) (by omega))
            clear HXv8
            refine hK.out _ _ ((unhide HGv9).m.cell 4 _ rfl) (fun hHv9 => ?_)
            clear hK K hHv8 HGv8 HQv8 HD HE
            refine rtk 11 (h := ?_)
            obtain ⟨⟨q0, q1, q2, q3⟩, qf0, qf1, qf2, qf3⟩ := bx4_slot (unhide HXv9)
            refine rcl 13 (h := fun K hK => ?_)
            go_simp
            have HGz := hide ((unhide HGv9).beyond (put4_fr v9 X (.int .i64 (ix + 1 + (k : Int))) (.int .i64 eb) (.int .i64 ea) (.string ec)) (fun k e => by omega))
            refine hK.out _ _ ((unhide HGz).m.cell 4 _ rfl) (fun _ => ?_)
            clear hK K
            refine wpAnyH_done (by kernel_rfl) ?_ _
            refine NoPanic.normal ?_
            go_wp2_with fail
            go_meet
            case rel => exact ⟨X, rfl, put4_bx (unhide HXv9) _ _ _ _, hXM, HGz, (unhide HQv9).trans' (put4_fr _ _ _ _ _ _) (fun i hi e => by omega)⟩
        · go_simp
          obtain ⟨X, hX⟩ : ∃ X, X = wd.heap.size := ⟨_, rfl⟩
          have HXv10 : Hid (Bx (wd.alloc (.cells #[.int .i64 0, .int .i64 0, .int .i64 0, .string ⟨#[]⟩] 56)) X [.int .i64 0, .int .i64 0, .int .i64 0, .string ⟨#[]⟩] 56) := Bx.new _ _ _ _ hX
          have HGv10 := hide ((unhide HGwd).grow ((Below.refl _ _).alloc (Nat.le_refl _) (.cells #[.int .i64 0, .int .i64 0, .int .i64 0, .string ⟨#[]⟩] 56)))
          have HQv10 : Hid (Fr (fun k => k = r) wr (wd.alloc (.cells #[.int .i64 0, .int .i64 0, .int .i64 0, .string ⟨#[]⟩] 56))) := (unhide HQwd).trans (Fr.alloc _ _ _)
          have hXM : M < X := by rw [hX]; exact (unhide HGwd).m.lt
          have hXr : wr.heap.size ≤ X := by rw [hX]; exact (unhide HQwd).size
          refine hK.out _ _ ((unhide HGv10).m.cell 4 _ rfl) (fun hHv10 => ?_)
          rw [← hX]
          clear hK K hHwd HGwd HQwd hX
          generalize wd.alloc (.cells #[.int .i64 0, .int .i64 0, .int .i64 0, .string ⟨#[]⟩] 56) = v10 at HXv10 HGv10 HQv10 hHv10 ⊢
          refine rcl 6 (h := fun K hK => ?_)
          go_simp
          refine (num_any r 1 z _ (by omega) (unhide HGv10).rd).mono ?_
          rw [unhide M1]
          rintro e v11 ⟨rfl, HD, HE⟩
          have HGv11 := hide ((unhide HGv10).call (unhide HE) (unhide HD))
          have HQv11 : Hid (Fr (fun k => k = r) wr v11) := (unhide HQv10).trans (unhide HE)
          have HXv11 := hide ((unhide HXv10).fr (unhide HE) (by omega))
          clear HXv10
          refine hK.out _ _ ((unhide HGv11).m.cell 4 _ rfl) (fun hHv11 => ?_)
          clear hK K hHv10 HGv10 HQv10 HD HE
          refine rcl 8 (h := fun K hK => ?_)
          go_simp
          refine (num_any r 5 z1 _ (by omega) (unhide HGv11).rd).mono ?_
          rw [unhide M2]
          rintro e v12 ⟨rfl, HD, HE⟩
          have HGv12 := hide ((unhide HGv11).call (unhide HE) (unhide HD))
          have HQv12 : Hid (Fr (fun k => k = r) wr v12) := (unhide HQv11).trans (unhide HE)
          have HXv12 := hide ((unhide HXv11).fr (unhide HE) (by omega))
          clear HXv11
          refine hK.out _ _ ((unhide HGv12).m.cell 4 _ rfl) (fun hHv12 => ?_)
          clear hK K hHv11 HGv11 HQv11 HD HE
          refine rcl 10 (h := fun K hK => ?_)
          go_simp
          refine (text_any r 2 z2 _ (by omega) (unhide HGv12).rd).mono ?_
          rw [unhide M3]
          rintro e v13 ⟨rfl, HD, HE⟩
          have HGv13 := hide ((unhide HGv12).call (unhide HE) (unhide HD))
          have HQv13 : Hid (Fr (fun k => k = r) wr v13) := (unhide HQv12).trans (unhide HE)
          have HXv13 := hide ((unhide HXv12).fr (unhide HE) (by omega))
          clear HXv12
          refine hK.out _ _ ((unhide HGv13).m.cell 4 _ rfl) (fun hHv13 => ?_)
          clear hK K hHv12 HGv12 HQv12 HD HE
          refine rtk 11 (h := ?_)
          obtain ⟨⟨q0, q1, q2, q3⟩, qf0, qf1, qf2, qf3⟩ := bx4_slot (unhide HXv13)
          refine rcl 13 (h := fun K hK => ?_)
          go_simp
          have HGz := hide ((unhide HGv13).beyond (put4_fr v13 X (.int .i64 (ix + 1 + (k : Int))) (.int .i64 eb) (.int .i64 ea) (.string ec)) (fun k e => by omega))
          refine hK.out _ _ ((unhide HGz).m.cell 4 _ rfl) (fun _ => ?_)
          clear hK K
          refine wpAnyH_done (by kernel_rfl) ?_ _
          refine NoPanic.normal ?_
          go_wp2_with fail
          go_meet
          case rel => exact ⟨X, rfl, put4_bx (unhide HXv13) _ _ _ _, hXM, HGz, (unhide HQv13).trans' (put4_fr _ _ _ _ _ _) (fun i hi e => by omega)⟩
      case rest =>
        obtain ⟨X, rfl, HX, hXM, HGc, HQc⟩ := hcut
        obtain ⟨⟨q0, q1, q2, q3⟩, _⟩ := bx4_slot (unhide HX)
        have c8 := (unhide HGc).m.cell 8 _ rfl
        have HOc := hide (owns_fr (unhide HOWN) (unhide HQc) (fun g hg => by have := (owns_blk (unhide HOWN) g hg).1; omega))
        have hsc : M < wc.heap.size := (unhide HGc).m.lt
        clear HGr HQc HX HOWN
        go_wp2_with (first
          | (at_builtin; refine wpList_append_own _ rfl _ _ 24 rfl (M + 1) 56 i0 _ 4 40 Tryz.underlying24 hi hz0 hz1 hz2 rfl (by decide) _ _ _ rfl ((unhide HOc).alloc _) ⟨wc.heap.size, 0, none⟩ 1 1 [.int .i64 (ix + 1 + (k : Int)), .int .i64 eb, .int .i64 ea, .string ec] rfl rfl (four_cell _ _ _ _ _ _) (four_one _ _ _ _) (by unfold maxLen; omega) (by omega) (by simp; omega) ?_)
          | go_in)
        intro v' wa hown' hgrow _
        obtain ⟨av, cv, rfl⟩ := owns_slice hown'
        have HFa := hide (Fr.of_grown (F := fun g => ve.ownBlock = some g) hgrow (fun g h => h))
        have HGa := hide (((unhide HGc).grow ((Below.refl _ _).alloc (Nat.le_refl _) _)).beyond (unhide HFa) (fun g hg => by have := (owns_blk (unhide HOc) g hg).1; omega))
        have HOa : Hid (wa.ownsRow (M + 1) 56 4 (.slice av (k + 1) cv) (k + 1) (ecs (l ++ [(ix + 1 + (k : Int), eb, ea, ec)]))) := by show World.ownsRow _ _ _ _ _ _ _; rw [ecs_app1]; exact hown'
        clear hgrow hown' HFa HGc HOc c8 q0 q1 q2 q3
        have c8 := (unhide HGa).m.cell 8 _ rfl
        have f8 := (unhide HGa).m.frz 8
        go_wp2
        go_roundw
        case rel => exact ⟨k + 1, .slice av (k + 1) cv, _, _, by omega, by go_num, HEN1, owns_fr (unhide HOa) (set_fr (F := fun g => g = M) rfl) (fun g hg => by have := (owns_blk (unhide HOa) g hg).1; omega), (unhide HGa).set 8 (.slice av (k + 1) cv) (by simp)⟩
        case measure => simp [intOf]; omega
    · obtain rfl : n = k := by omega
      obtain ⟨e1, e2⟩ := Prod.mk.inj ((unhide Nsa).symm.trans (unhide HEN))
      subst e1
      subst e2
      obtain ⟨ae, ce, rfl⟩ := owns_slice (unhide HOWN)
      go_wp2_with fail
      refine (num_any r 1 sa _ (by omega) (unhide HGr).rd).mono ?_
      have hkk := nu_range (k := 1) (unhide HGr).rd.r8
      rw [unhide Nsb] at hkk
      rw [unhide Nsb]
      rintro e wm ⟨rfl, HD, HE⟩
      have HGm := hide ((unhide HGr).call (unhide HE) (unhide HD))
      have HOm := hide (owns_fr (unhide HOWN) (unhide HE) (fun g hg => by have := (owns_blk (unhide HOWN) g hg).1; omega))
      clear HD HE HGr HOWN
      dsimp only at hkk
      simp only [Int.reducePow] at hkk
      obtain ⟨m, rfl⟩ := Int.eq_ofNat_of_zero_le hkk.1
      have hm : m ≤ 255 := by omega
      rw [Int.toNat_natCast] at Nsc
      obtain ⟨B2, hB2⟩ : ∃ B2, B2 = wm.heap.size := ⟨_, rfl⟩
      have HGB : Hid (∀ g, (Value.slice ae n ce).ownBlock = some g → M < g ∧ g < B2) := fun g hg => by have := owns_blk (unhide HOm) g hg; omega
      have hMB : M < B2 := by rw [hB2]; exact (unhide HGm).m.lt
      have hBm : B2 ≤ wm.heap.size := by omega
      clear hkk hB2
      go_wp2
      go_loopw [53] (fun i wr => ∃ (j : Nat) (vm : Value) (l2 : List Int) (y : St), j ≤ m ∧ i = .int .i64 j ∧ B2 ≤ wr.heap.size ∧ Hid (mms sb j = (l2, y)) ∧ Hid (wr.ownsRow B2 3 1 vm j (l2.map (Value.int .i64))) ∧ Hid (wr.ownsRow (M + 1) 56 4 (.slice ae n ce) n (ecs es)) ∧ Hid (MG w wr r M R y (mc kd fm tt te ix lt co ok (.slice ae n ce) vm ⟨#[]⟩))) (fun i _ => m - (intOf i).toNat)
      case atStart => exact ⟨0, _, [], sb, Nat.zero_le _, rfl, hBm, rfl, World.ownsRow_nil _ _ _ _, HOm, HGm⟩
      case round =>
        obtain ⟨j, vm, l2, y, hj, rfl, hBq, HMM, HV, HE2, HGq⟩ := hrel
        by_cases hlt2 : j < m
        · obtain ⟨ea, y1, hy1⟩ : ∃ a b, nu 1 y = (a, b) := ⟨_, _, rfl⟩
          have M4 := hide hy1
          have HMM1 := hide (mms_succ (unhide HMM) hy1)
          clear hy1
          go_upto_block 3 with fail
          go_cut [] from 54 to 62 (fun wx => ∃ v' : Value, B2 ≤ wx.heap.size ∧ Hid (wx.ownsRow B2 3 1 v' (j + 1) ((l2 ++ [ea]).map (Value.int .i64))) ∧ Hid (wx.ownsRow (M + 1) 56 4 (.slice ae n ce) n (ecs es)) ∧ Hid (MG w wx r M R y1 (mc kd fm tt te ix lt co ok (.slice ae n ce) v' ⟨#[]⟩)))
          case first =>
            go_upto_region 14 with fail
            refine wp_region_noPanic ?_
            refine wp_region_held_drew (S := fun _ => True) (by kernel_rfl) trivial (fun _ => ?_)
            refine rtk 0 (hS := trivial) (h := ?_)
            refine rtk 2 (hS := trivial) (h := ?_)
            have HGwd : Hid (MG w wr.drew r M R y (mc kd fm tt te ix lt co ok (.slice ae n ce) vm ⟨#[]⟩)) := (unhide HGq).grow (below_drewN (Below.refl _ _) 1)
            have HVwd : Hid (wr.drew.ownsRow B2 3 1 vm j (l2.map (Value.int .i64))) := owns_drewN (unhide HV) 1
            have HEwd : Hid (wr.drew.ownsRow (M + 1) 56 4 (.slice ae n ce) n (ecs es)) := owns_drewN (unhide HE2) 1
            have hswd : B2 ≤ wr.drew.heap.size := hBq
            generalize wr.drew = wd at HGwd HVwd HEwd hswd ⊢
            refine wpAnyH_ready (rs := [1, 3]) (by kernel_rfl) (by simp) (rac (h := fun K hK => ?_) (hs := rac (h := fun K hK => ?_) (hs := AllReadyH.nil)))
            · have c9 := (unhide HGwd).m.cell 9 _ rfl
              go_simp
              refine hK.out _ _ trivial (fun _ => ?_)
              clear hK K c9
              refine rcl 3 (h := fun K hK => ?_)
              go_simp
              refine (num_any r 1 y _ (by omega) (unhide HGwd).rd).mono ?_
              rw [unhide M4]
              rintro e v14 ⟨rfl, HD, HE⟩
              have HGv14 := hide ((unhide HGwd).call (unhide HE) (unhide HD))
              have hsv14 : B2 ≤ v14.heap.size := Nat.le_trans hswd (unhide HE).size
              have HVv14 := hide (owns_fr (unhide HVwd) (unhide HE) (fun g hg => by have := (owns_blk (unhide HVwd) g hg).1; omega))
              have HEv14 := hide (owns_fr (unhide HEwd) (unhide HE) (fun g hg => by have := (owns_blk (unhide HEwd) g hg).1; omega))
              refine hK.out _ _ trivial (fun _ => ?_)
              clear hK K HGwd HVwd HEwd HD HE
              refine rcl 4 (h := fun K hK => ?_)
              go_simp
              obtain ⟨Y, hY⟩ : ∃ Y, Y = v14.heap.size := ⟨_, rfl⟩
              have HYv15 : Hid ((v14.alloc (.cells #[.int .i64 ea] 3)).cell? ⟨Y, 0, none⟩ = some (.int .i64 ea)) := by show _ = _; rw [hY]; simp
              have HGv15 := hide ((unhide HGv14).grow ((Below.refl _ _).alloc (Nat.le_refl _) (.cells #[.int .i64 ea] 3)))
              have HVv15 : Hid ((v14.alloc (.cells #[.int .i64 ea] 3)).ownsRow B2 3 1 vm j (l2.map (Value.int .i64))) := (unhide HVv14).alloc _
              have HEv15 : Hid ((v14.alloc (.cells #[.int .i64 ea] 3)).ownsRow (M + 1) 56 4 (.slice ae n ce) n (ecs es)) := (unhide HEv14).alloc _
              have hsv15 : B2 ≤ (v14.alloc (.cells #[.int .i64 ea] 3)).heap.size := by simp; omega
              refine hK.out _ _ trivial (fun _ => ?_)
              rw [← hY]
              clear hK K HGv14 HVv14 HEv14 hY
              generalize v14.alloc (.cells #[.int .i64 ea] 3) = v15 at HYv15 HGv15 HVv15 HEv15 hsv15 ⊢
              refine rcl 5 (h := fun K hK => ?_)
              refine step_app1 rfl _ _ rfl B2 vm j l2 rfl (unhide HVv15) Y ea rfl (unhide HYv15) (by omega) hsv15 (fun v' v16 hown' hgrow => ?_)
              obtain ⟨av, cv, rfl⟩ := owns_slice hown'
              have HFv16 := hide (Fr.of_grown (F := fun g => vm.ownBlock = some g) hgrow (fun g h => h))
              have HGv16 := hide ((unhide HGv15).beyond (unhide HFv16) (fun g hg => by have := (owns_blk (unhide HVv15) g hg).1; omega))
              have HEv16 := hide (owns_fr (unhide HEv15) (unhide HFv16) (fun g hg h2 => by have := (owns_blk (unhide HVv15) g h2).1; have := (unhide HGB g hg).2; omega))
              have HVv16 := hide hown'
              have hsv16 : B2 ≤ v16.heap.size := Nat.le_trans hsv15 (unhide HFv16).size
              refine hK.out _ _ trivial (fun _ => ?_)
              clear hK K hgrow hown' HFv16 HGv15 HEv15 HVv15 HYv15 hsv15
              refine rtk 6 (hS := trivial) (h := ?_)
              have c9 := (unhide HGv16).m.cell 9 _ rfl
              have f9 := (unhide HGv16).m.frz 9
              refine rcl 7 (h := fun K hK => ?_)
              go_simp
              refine hK.out _ _ trivial (fun _ => ?_)
              clear hK K
              refine wpAnyH_done (by kernel_rfl) ?_ _
              refine NoPanic.normal ?_
              have HSM : Hid (Fr (fun g => g = M) v16 (v16.setCell ⟨M, 9, none⟩ (.slice av (j + 1) cv))) := set_fr rfl
              go_wp2_with fail
              go_meet
              case rel => exact ⟨.slice av (j + 1) cv, by rw [show (v16.setCell ⟨M, 9, none⟩ (.slice av (j + 1) cv)).heap.size = v16.heap.size by simp [World.setCell]]; exact hsv16, owns_fr (unhide HVv16) (unhide HSM) (fun g hg => by have := (owns_blk (unhide HVv16) g hg).1; omega), owns_fr (unhide HEv16) (unhide HSM) (fun g hg => by have := (owns_blk (unhide HEv16) g hg).1; omega), (unhide HGv16).set 9 (.slice av (j + 1) cv) (by simp)⟩
            · go_simp
              refine (num_any r 1 y _ (by omega) (unhide HGwd).rd).mono ?_
              rw [unhide M4]
              rintro e v17 ⟨rfl, HD, HE⟩
              have HGv17 := hide ((unhide HGwd).call (unhide HE) (unhide HD))
              have hsv17 : B2 ≤ v17.heap.size := Nat.le_trans hswd (unhide HE).size
              have HVv17 := hide (owns_fr (unhide HVwd) (unhide HE) (fun g hg => by have := (owns_blk (unhide HVwd) g hg).1; omega))
              have HEv17 := hide (owns_fr (unhide HEwd) (unhide HE) (fun g hg => by have := (owns_blk (unhide HEwd) g hg).1; omega))
              refine hK.out _ _ trivial (fun _ => ?_)
              clear hK K HGwd HVwd HEwd HD HE
              refine wpAnyH_ready (rs := [1, 4]) (by kernel_rfl) (by simp) (rac (h := fun K hK => ?_) (hs := rac (h := fun K hK => ?_) (hs := AllReadyH.nil)))
              · have c9 := (unhide HGv17).m.cell 9 _ rfl
                go_simp
                refine hK.out _ _ trivial (fun _ => ?_)
                clear hK K c9
                refine rcl 4 (h := fun K hK => ?_)
                go_simp
                obtain ⟨Y, hY⟩ : ∃ Y, Y = v17.heap.size := ⟨_, rfl⟩
                have HYv18 : Hid ((v17.alloc (.cells #[.int .i64 ea] 3)).cell? ⟨Y, 0, none⟩ = some (.int .i64 ea)) := by show _ = _; rw [hY]; simp
                have HGv18 := hide ((unhide HGv17).grow ((Below.refl _ _).alloc (Nat.le_refl _) (.cells #[.int .i64 ea] 3)))
                have HVv18 : Hid ((v17.alloc (.cells #[.int .i64 ea] 3)).ownsRow B2 3 1 vm j (l2.map (Value.int .i64))) := (unhide HVv17).alloc _
                have HEv18 : Hid ((v17.alloc (.cells #[.int .i64 ea] 3)).ownsRow (M + 1) 56 4 (.slice ae n ce) n (ecs es)) := (unhide HEv17).alloc _
                have hsv18 : B2 ≤ (v17.alloc (.cells #[.int .i64 ea] 3)).heap.size := by simp; omega
                refine hK.out _ _ trivial (fun _ => ?_)
                rw [← hY]
                clear hK K HGv17 HVv17 HEv17 hY
                generalize v17.alloc (.cells #[.int .i64 ea] 3) = v18 at HYv18 HGv18 HVv18 HEv18 hsv18 ⊢
                refine rcl 5 (h := fun K hK => ?_)
                refine step_app1 rfl _ _ rfl B2 vm j l2 rfl (unhide HVv18) Y ea rfl (unhide HYv18) (by omega) hsv18 (fun v' v19 hown' hgrow => ?_)
                obtain ⟨av, cv, rfl⟩ := owns_slice hown'
                have HFv19 := hide (Fr.of_grown (F := fun g => vm.ownBlock = some g) hgrow (fun g h => h))
                have HGv19 := hide ((unhide HGv18).beyond (unhide HFv19) (fun g hg => by have := (owns_blk (unhide HVv18) g hg).1; omega))
                have HEv19 := hide (owns_fr (unhide HEv18) (unhide HFv19) (fun g hg h2 => by have := (owns_blk (unhide HVv18) g h2).1; have := (unhide HGB g hg).2; omega))
                have HVv19 := hide hown'
                have hsv19 : B2 ≤ v19.heap.size := Nat.le_trans hsv18 (unhide HFv19).size
                refine hK.out _ _ trivial (fun _ => ?_)
                clear hK K hgrow hown' HFv19 HGv18 HEv18 HVv18 HYv18 hsv18
                refine rtk 6 (hS := trivial) (h := ?_)
                have c9 := (unhide HGv19).m.cell 9 _ rfl
                have f9 := (unhide HGv19).m.frz 9
                refine rcl 7 (h := fun K hK => ?_)
                go_simp
                refine hK.out _ _ trivial (fun _ => ?_)
                clear hK K
                refine wpAnyH_done (by kernel_rfl) ?_ _
                refine NoPanic.normal ?_
                have HSM : Hid (Fr (fun g => g = M) v19 (v19.setCell ⟨M, 9, none⟩ (.slice av (j + 1) cv))) := set_fr rfl
                go_wp2_with fail
                go_meet
                case rel => exact ⟨.slice av (j + 1) cv, by rw [show (v19.setCell ⟨M, 9, none⟩ (.slice av (j + 1) cv)).heap.size = v19.heap.size by simp [World.setCell]]; exact hsv19, owns_fr (unhide HVv19) (unhide HSM) (fun g hg => by have := (owns_blk (unhide HVv19) g hg).1; omega), owns_fr (unhide HEv19) (unhide HSM) (fun g hg => by have := (owns_blk (unhide HEv19) g hg).1; omega), (unhide HGv19).set 9 (.slice av (j + 1) cv) (by simp)⟩
              · go_simp
                obtain ⟨Y, hY⟩ : ∃ Y, Y = v17.heap.size := ⟨_, rfl⟩
                have HYv20 : Hid ((v17.alloc (.cells #[.int .i64 ea] 3)).cell? ⟨Y, 0, none⟩ = some (.int .i64 ea)) := by show _ = _; rw [hY]; simp
                have HGv20 := hide ((unhide HGv17).grow ((Below.refl _ _).alloc (Nat.le_refl _) (.cells #[.int .i64 ea] 3)))
                have HVv20 : Hid ((v17.alloc (.cells #[.int .i64 ea] 3)).ownsRow B2 3 1 vm j (l2.map (Value.int .i64))) := (unhide HVv17).alloc _
                have HEv20 : Hid ((v17.alloc (.cells #[.int .i64 ea] 3)).ownsRow (M + 1) 56 4 (.slice ae n ce) n (ecs es)) := (unhide HEv17).alloc _
                have hsv20 : B2 ≤ (v17.alloc (.cells #[.int .i64 ea] 3)).heap.size := by simp; omega
                refine hK.out _ _ trivial (fun _ => ?_)
                rw [← hY]
                clear hK K HGv17 HVv17 HEv17 hY
                generalize v17.alloc (.cells #[.int .i64 ea] 3) = v20 at HYv20 HGv20 HVv20 HEv20 hsv20 ⊢
                refine rcl 1 (h := fun K hK => ?_)
                have c9 := (unhide HGv20).m.cell 9 _ rfl
                go_simp
                refine hK.out _ _ trivial (fun _ => ?_)
                clear hK K c9
                refine rcl 5 (h := fun K hK => ?_)
                refine step_app1 rfl _ _ rfl B2 vm j l2 rfl (unhide HVv20) Y ea rfl (unhide HYv20) (by omega) hsv20 (fun v' v21 hown' hgrow => ?_)
                obtain ⟨av, cv, rfl⟩ := owns_slice hown'
                have HFv21 := hide (Fr.of_grown (F := fun g => vm.ownBlock = some g) hgrow (fun g h => h))
                have HGv21 := hide ((unhide HGv20).beyond (unhide HFv21) (fun g hg => by have := (owns_blk (unhide HVv20) g hg).1; omega))
                have HEv21 := hide (owns_fr (unhide HEv20) (unhide HFv21) (fun g hg h2 => by have := (owns_blk (unhide HVv20) g h2).1; have := (unhide HGB g hg).2; omega))
                have HVv21 := hide hown'
                have hsv21 : B2 ≤ v21.heap.size := Nat.le_trans hsv20 (unhide HFv21).size
                refine hK.out _ _ trivial (fun _ => ?_)
                clear hK K hgrow hown' HFv21 HGv20 HEv20 HVv20 HYv20 hsv20
                refine rtk 6 (hS := trivial) (h := ?_)
                have c9 := (unhide HGv21).m.cell 9 _ rfl
                have f9 := (unhide HGv21).m.frz 9
                refine rcl 7 (h := fun K hK => ?_)
                go_simp
                refine hK.out _ _ trivial (fun _ => ?_)
                clear hK K
                refine wpAnyH_done (by kernel_rfl) ?_ _
                refine NoPanic.normal ?_
                have HSM : Hid (Fr (fun g => g = M) v21 (v21.setCell ⟨M, 9, none⟩ (.slice av (j + 1) cv))) := set_fr rfl
                go_wp2_with fail
                go_meet
                case rel => exact ⟨.slice av (j + 1) cv, by rw [show (v21.setCell ⟨M, 9, none⟩ (.slice av (j + 1) cv)).heap.size = v21.heap.size by simp [World.setCell]]; exact hsv21, owns_fr (unhide HVv21) (unhide HSM) (fun g hg => by have := (owns_blk (unhide HVv21) g hg).1; omega), owns_fr (unhide HEv21) (unhide HSM) (fun g hg => by have := (owns_blk (unhide HEv21) g hg).1; omega), (unhide HGv21).set 9 (.slice av (j + 1) cv) (by simp)⟩
          case rest =>
            obtain ⟨v', hBc, HVc, HEc, HGc⟩ := hcut
            clear HGq HV HE2
            go_wp2
            go_roundw
            case rel => exact ⟨j + 1, v', _, _, by omega, by go_num, hBc, HMM1, HVc, HEc, HGc⟩
            case measure => simp [intOf]; omega
        · obtain rfl : m = j := by omega
          obtain ⟨e1, e2⟩ := Prod.mk.inj ((unhide Nsc).symm.trans (unhide HMM))
          subst e1
          subst e2
          obtain ⟨am, cm, rfl⟩ := owns_slice (unhide HV)
          go_wp2_with fail
          refine (text_any r 4 sc _ (by omega) (unhide HGq).rd).mono ?_
          rw [unhide Nsd]
          rintro e wt ⟨rfl, HD, HE⟩
          have HGt := hide ((unhide HGq).call (unhide HE) (unhide HD))
          have hrM : r < M := by omega
          have HVt := hide (owns_fr (unhide HV) (unhide HE) (fun g hg => by have := (owns_blk (unhide HV) g hg).1; omega))
          have HEt := hide (owns_fr (unhide HE2) (unhide HE) (fun g hg => by have := (owns_blk (unhide HE2) g hg).1; omega))
          clear HD HE HGq HV HE2
          have c10 := (unhide HGt).m.cell 10 _ rfl
          have f10 := (unhide HGt).m.frz 10
          go_upto_region 17 with fail
          obtain ⟨Q, hQ⟩ : ∃ Q : Mq, Q = ⟨⟨kd, fm, tt, te, ix, lt, co, ok, es, mm, dt⟩, ae, n, ce, am, m, cm⟩ := ⟨_, rfl⟩
          have HGu : Hid (MG w (wt.setCell ⟨M, 10, none⟩ (.string dt)) r M R sd (mcs Q)) := by rw [hQ]; exact (unhide HGt).set 10 _ (by simp)
          have HVu := hide (owns_fr (unhide HVt) (set_fr (F := fun g => g = M) (w := wt) (j := 10) (v := .string dt) rfl) (fun g hg => by have := (owns_blk (unhide HVt) g hg).1; omega))
          have HEu := hide (owns_fr (unhide HEt) (set_fr (F := fun g => g = M) (w := wt) (j := 10) (v := .string dt) rfl) (fun g hg => by have := (owns_blk (unhide HEt) g hg).1; omega))
          have HQr : Hid (Q.r = ⟨kd, fm, tt, te, ix, lt, co, ok, es, mm, dt⟩) := by show _ = _; rw [hQ]
          have HQe : Hid ((Value.slice ae n ce = .slice Q.ea Q.en Q.ec ∧ Value.slice am m cm = .slice Q.ma Q.mn Q.mc) ∧ n = Q.en ∧ m = Q.mn) := by rw [hQ]; exact ⟨⟨rfl, rfl⟩, rfl, rfl⟩
          generalize wt.setCell ⟨M, 10, none⟩ (.string dt) = wu at HGu HVu HEu ⊢
          clear hQ HGt HVt HEt c10 f10
          go_step
          refine wpList_load_mid rfl 27 _ rfl M 0 rfl (mcs Q) _ (unhide HGu).m.range Tryz.underlying27 rfl rpc_size ?_
          simp only [Act.put, List.setIfInBounds_toArray, List.set_cons_zero, List.set_cons_succ]
          refine wpList_store_mid rfl 27 _ _ rfl R 0 (mcs Q).toArray rfl rfl ((unhide HGu).a.there _ (Nat.le_refl _)) rpc_size (mcs_all _) ?_
          simp only [Act.put]
          have hfr : Fr (fun k => k = R) wu (wu.setCells R 0 (mcs Q)) := setCells_fr (F := fun k => k = R) R rfl _ _ _
          have HRG := hide (World.rangeAt_setCells_same wu R 0 (mcs Q) ((unhide HGu).a.there _ (Nat.le_refl _)))
          have HOW : Hid (MqOwn (wu.setCells R 0 (mcs Q)) w.heap.size Q) := by
            obtain ⟨⟨e1, e2⟩, e3, e4⟩ := unhide HQe
            have h1 := owns_mono (owns_fr (unhide HEu) hfr (fun g hg => by have := (owns_blk (unhide HEu) g hg).1; omega)) (show w.heap.size ≤ M + 1 by omega)
            have h2 := owns_mono (owns_fr (unhide HVu) hfr (fun g hg => by have := (owns_blk (unhide HVu) g hg).1; omega)) (show w.heap.size ≤ B2 by omega)
            rw [e1, e3] at h1
            rw [e2, e4] at h2
            have q1 : Q.r.ents = es := by rw [unhide HQr]
            have q2 : Q.r.mems = mm := by rw [unhide HQr]
            exact ⟨by rw [q1]; exact h1, by rw [q2]; exact h2, by rw [← e3]; omega, by rw [← e4]; omega⟩
          have HRDE : Hid (RdAt (wu.setCells R 0 (mcs Q)) r sd) := (unhide HGu).rd.fr hfr (fun k hk e => by omega)
          have HFRE : Hid (Fr (fun k => k = r) w (wu.setCells R 0 (mcs Q))) := (unhide HGu).fr.trans' hfr (fun i hi e => by omega)
          have HMSQ : Hid (MsgIs s Q.r sd) := by show MsgIs _ _ _; rw [unhide HQr]; exact unhide HMS
          generalize wu.setCells R 0 (mcs Q) = wz at HRG HOW HRDE HFRE ⊢
          clear hfr HGu HVu HEu HQe HQr HMS
          go_wp2
          refine bodyPost_ret (res_r (B := R) (q := Q) rfl rfl (unhide HRG)) rfl ?_
          exact ⟨Q, sd, rfl, HMSQ, HOW, HRDE, HFRE⟩
end Go.Proofs.YtmmhdhpocjnlbaaGreatDoor.Jr
