/- Proved here: the contract of sum.Sum (by a table of half bytes, made anew by each call). Helper contract. -/
import Derived.Test.YtlomlhnmkhngjaaZCRef
import Derived.Test.YtlomlhnmkhngjaaZCTab
import Derived.Deep.MidRow
import Derived.Deep.WholeRow
import Derived.Deep.Cut
namespace Go.Proofs.Ytlomlhnmkhngjaa.C
open Go.RowKit
set_option maxRecDepth 100000

theorem wpList_value {P : Program} {ops : Array Oper} {rest : List Oper} {o : Oper} {a : Act} {w w' : World} {v : Value} {Q : Exit → Act → World → Prop} (hg : o.guard = none) (hr : (execOp a.eval o).run P w = .ok (.value v) w') (h : wpList P ops Q rest (a.put o.dst v) w') : wpList P ops Q (o :: rest) a w :=
  wpList_plain hg fun K hK => by unfold Oper.wp; rw [hr]; exact hK _ _ h
theorem wpList_skip {P : Program} {ops : Array Oper} {rest : List Oper} {o : Oper} {a : Act} {w w' : World} {Q : Exit → Act → World → Prop} (hg : o.guard = none) (hr : (execOp a.eval o).run P w = .ok .skip w') (h : wpList P ops Q rest (a.put o.dst undef) w') : wpList P ops Q (o :: rest) a w :=
  wpList_plain hg fun K hK => by unfold Oper.wp; rw [hr]; exact hK _ _ h
/-- half a byte's steps -/
def st4 (c : Nat) : Nat := st (st (st (st c)))
theorem st4_lt {c : Nat} (h : c < 4294967296) : st4 c < 4294967296 := st_lt (st_lt (st_lt (st_lt h)))
theorem st8_halves (c : Nat) : st8 c = st4 (st4 c) := rfl
theorem st4_xor (a b : Nat) : st4 (a ^^^ b) = st4 a ^^^ st4 b := by
  unfold st4
  simp only [st_xor]
theorem st4_high (m : Nat) : st4 (16 * m) = m := by
  unfold st4
  rw [show 16 * m = 2 * (2 * (2 * (2 * m))) from by omega]
  simp only [st_even]
theorem low_high4 (c : Nat) : c = c % 16 ^^^ 16 * (c / 16) := by
  apply Nat.eq_of_testBit_eq
  intro i
  rw [Nat.testBit_xor, show (16 : Nat) = 2 ^ 4 from rfl, Nat.testBit_mod_two_pow, Nat.testBit_two_pow_mul, Nat.testBit_div_two_pow]
  by_cases h : i < 4
  · simp [h, show ¬ 4 ≤ i from by omega]
  · simp [h, show i - 4 + 4 = i from by omega, show 4 ≤ i from by omega]
/-- four steps: the low half's, by the table, and the rest moved down -/
theorem st4_tab (c : Nat) : st4 c = c / 16 ^^^ st4 (c % 16) := by
  conv => lhs; rw [low_high4 c]
  rw [st4_xor, st4_high, Nat.xor_comm]
theorem op_low (c : Nat) (h : c < 4294967296) : bits .and .u32 (c : Int) 15 = ((c % 16 : Nat) : Int) := by
  rw [show (15 : Int) = ((15 : Nat) : Int) from rfl, u32_and_nat c 15 h (by decide), show (15 : Nat) = 2 ^ 4 - 1 from rfl, Nat.and_two_pow_sub_one_eq_mod]
theorem op_half (c t : Nat) (h : c < 4294967296) (ht : t < 4294967296) : bits .xor .u32 ((c : Int) / 16) (t : Int) = ((c / 16 ^^^ t : Nat) : Int) := by
  rw [show (c : Int) / 16 = ((c / 16 : Nat) : Int) from by omega, u32_xor_nat (c / 16) t (by omega) ht]
theorem stn4 (c : Nat) : stn 4 c = st4 c := rfl
theorem rest_any (c : Nat) (w : World) (hcl : c < 4294967296) : Calls Try.prog 12 #[.int .u32 c] w fun e w' => e = .returned (.int .u32 ((st4 c : Nat) : Int)) ∧ w' = w := by
  have hsg : ¬ IntKind.u32.signed = true := by decide
  obtain ⟨c0, hc0⟩ : ∃ c0, c0 = c := ⟨c, rfl⟩
  rw [← hc0] at hcl ⊢
  clear hc0
  go_enter Try.func12, Try.ntmps12
  go_wp2
  go_loopw [0, 4] (fun c i wr => ∃ (j : Nat), j ≤ 4 ∧ i = .int .i64 j ∧ c = .int .u32 ((stn j c0 : Nat) : Int) ∧ wr = w) (fun _ i _ => 4 - (intOf i).toNat)
  case atStart => exact ⟨0, by omega, rfl, rfl, rfl⟩
  case round =>
    obtain ⟨j, hj, rfl, rfl, hwi⟩ := hrel
    obtain rfl : w = wr := hwi.symm
    by_cases hj8 : j < 4
    · have hcl := stn_lt hcl j
      have HST : Hid (stn (j + 1) c0 = st (stn j c0)) := rfl
      generalize stn j c0 = c at hcl HST
      have ho1 := op_one c hcl
      by_cases h1 : c % 2 = 1
      · rw [h1] at ho1
        have hs1 := op_st1 c hcl h1
        rw [← unhide HST] at hs1
        clear h1
        go_wp2
        go_roundw
        case rel => exact ⟨j + 1, by omega, by go_num, rfl, trivial⟩
        case measure => simp [intOf]; omega
      · have h0 : c % 2 = 0 := by omega
        rw [h0] at ho1
        have hs0 := op_st0 c h1
        rw [← unhide HST] at hs0
        clear h1 h0
        go_wp2
        go_roundw
        case rel => exact ⟨j + 1, by omega, by go_num, by rw [← hs0], trivial⟩
        case measure => simp [intOf]; omega
    · obtain rfl : j = 4 := by omega
      rw [stn4]
      generalize hc8 : st4 c0 = c8
      have HE := hide hc8
      clear hc8
      go_wp2
      go_ret
      exact ⟨by rw [unhide HE]; rfl, rfl⟩
/-- sixteen numbers in a block of their own -/
def TAt (w : World) (b : Nat) (f : Nat → Nat) : Prop := ∀ j, j < 16 → w.cell? ⟨b, j, none⟩ = some (.int .u32 ((f j : Nat) : Int)) ∧ w.frozen? ⟨b, j, none⟩ = false
def tcs (f : Nat → Nat) : List Value := (List.range 16).map fun j => .int .u32 ((f j : Nat) : Int)
theorem tcs_get (f : Nat → Nat) (j : Nat) (hj : j < 16) : (tcs f)[j]? = some (.int .u32 ((f j : Nat) : Int)) := by
  unfold tcs
  rw [List.getElem?_map, List.getElem?_range hj]
  rfl
theorem tcs_len (f : Nat → Nat) : (tcs f).length = 16 := by unfold tcs; simp
theorem TAt.range {w : World} {b : Nat} {f : Nat → Nat} (h : TAt w b f) : w.rangeAt b 0 (tcs f) := fun j v hv => by
  have hj : j < 16 := by rw [← tcs_len f]; exact (List.getElem?_eq_some_iff.1 hv).1
  rw [tcs_get f j hj] at hv
  rw [Nat.zero_add, (h j hj).1, hv]
theorem TAt.there {w : World} {b : Nat} {f : Nat → Nat} (h : TAt w b f) (g : Nat → Nat) : w.there b 0 (tcs g).toArray.size := fun j hj => by
  have hj : j < 16 := by simpa [tcs_len] using hj
  rw [Nat.zero_add, (h j hj).1]
  exact ⟨rfl, (h j hj).2⟩
theorem TAt.stored {w : World} {b : Nat} {f : Nat → Nat} (h : TAt w b f) (g : Nat → Nat) : TAt (w.setCells b 0 (tcs g)) b g := fun j hj => by
  have k := World.rangeAt_setCells_same w b 0 (tcs g) (by simpa using h.there g) j _ (tcs_get g j hj)
  rw [Nat.zero_add] at k
  exact ⟨k, by rw [World.frozen?_setCells]; exact (h j hj).2⟩
theorem TAt.below {w w' : World} {b : Nat} {f : Nat → Nat} (h : TAt w b f) (hb : Below w.heap.size w w') : TAt w' b f := fun j hj =>
  ⟨(hb.cell (cell_lt (h j hj).1)).trans (h j hj).1, (hb.frozen (cell_lt (h j hj).1)).trans (h j hj).2⟩
theorem TAt.set {w : World} {b : Nat} {f g : Nat → Nat} (h : TAt w b f) (i : Nat) (hq : ∀ j, j < 16 → j ≠ i → g j = f j) : TAt (w.setCell ⟨b, i, none⟩ (.int .u32 ((g i : Nat) : Int))) b g := fun j hj => by
  refine ⟨?_, by simpa using (h j hj).2⟩
  by_cases hji : j = i
  · subst hji
    exact World.cell?_setCell_same _ _ _ (h j hj).1
  · rw [World.cell?_setCell_other _ _ _ _ (by intro e; injection e with _ e; exact hji e.symm), hq j hj hji]
    exact (h j hj).1
theorem TAt.new (w : World) (f : Nat → Nat) : TAt (w.alloc (.cells (tcs f).toArray 33)) w.heap.size f := fun j hj => by
  refine ⟨?_, by simp⟩
  have k := heap_alloc_new w (.cells (tcs f).toArray 33)
  unfold World.cell?
  dsimp only
  rw [k]
  simpa using tcs_get f j hj
theorem tcs_ones (f : Nat → Nat) : (tcs f).toArray.all (·.oneCell') = true := all_oneCell_toArray (fun v hv => by
  unfold tcs at hv
  obtain ⟨j, _, rfl⟩ := List.mem_map.1 hv
  rfl)
theorem arr_size (f : Nat → Nat) : (Try.prog.info? 33).map (·.size) = some (tcs f).length := by rw [tcs_len]; kernel_rfl
theorem arr_alloc (ρ : Operand → Value) (dst : Option Tmp) (ty : TypeId) (pos : String) (after : Array Edge) (w : World) :
    (execOp ρ ⟨dst, .alloc 33, ty, pos, after, none⟩).run Try.prog w = .ok (.value (.pointer (some ⟨w.heap.size, 0, none⟩))) (w.alloc (.cells (tcs fun _ => 0).toArray 33)) := by
  kernel_rfl
theorem arr_store (a : Act) (dst : Option Tmp) (x y : Operand) (ty : TypeId) (pos : String) (after : Array Edge) (f : Nat → Nat) (w : World) (hx : a.eval x = .pointer (some ⟨w.heap.size, 0, none⟩)) (hy : a.eval y = .agg (tcs f).toArray) :
    (execOp a.eval ⟨dst, .store 33 x y, ty, pos, after, none⟩).run Try.prog (w.alloc (.cells (tcs fun _ => 0).toArray 33)) = .ok .skip (w.alloc (.cells (tcs f).toArray 33)) := by
  show Sem.run Try.prog (do Instr.storeAt 33 (a.eval x) (a.eval y); pure Next.skip) _ = _
  rw [hx, hy]
  simp only [Sem.run_bind]
  rw [run_storeAt_new w 33 (tcs fun _ => 0).toArray (tcs f).toArray (by rw [arr_size f]; simp) (by simp [tcs_len]) (tcs_ones f)]
  rfl
theorem setCells_below {w0 w : World} {B R o : Nat} {vs : List Value} (h : Below B w0 w) (hR : B ≤ R) : Below B w0 (w.setCells R o vs) := by
  induction vs generalizing o w with
  | nil => exact h
  | cons v r ih => exact ih (h.setCell (p := ⟨R, o, none⟩) hR v)
theorem res_arr {fn : Func} {a : Tmp} (h : fn.results = #[.cell a 33]) {tmps : Array Value} {w : World} {B : Nat} {f : Nat → Nat} (ha : tmps[a]?.getD undef = .pointer (some ⟨B, 0, none⟩)) (hq : TAt w B f) : (results fn tmps).run Try.prog w = .ok (.agg (tcs f).toArray) w := by
  have k := run_loadVar_mid (P := Try.prog) w B 0 33 (tcs f) _ hq.range Try.underlying33 rfl (arr_size f)
  simp [results, h, ha, asAddr, k]
def half (k j : Nat) : Nat := if j < k then st4 j else 0
set_option maxHeartbeats 4000000 in
theorem table_any (w : World) : Calls Try.prog 11 #[] w fun e w' => e = .returned (.agg (tcs st4).toArray) ∧ Below w.heap.size w w' := by
  have H0 : Hid (TAt (w.alloc (.cells (tcs (half 0)).toArray 33)) w.heap.size (half 0)) := TAt.new w (half 0)
  have HB0 : Hid (Below w.heap.size w (w.alloc (.cells (tcs (half 0)).toArray 33))) := (Below.refl _ _).alloc (Nat.le_refl _) _
  go_enter Try.func11, Try.ntmps11
  go_upto_region 1 with fail
  change Code.wp _ _ _ _ (w.alloc (.cells (tcs (half 0)).toArray 33))
  generalize w.alloc (.cells (tcs (half 0)).toArray 33) = w1 at H0 HB0 ⊢
  go_wp2
  go_loopw [2] (fun i wr => ∃ (k : Nat), k ≤ 16 ∧ i = .int .i64 k ∧ Hid (TAt wr w.heap.size (half k)) ∧ Hid (Below w.heap.size w wr)) (fun i _ => 16 - (intOf i).toNat)
  case atStart => exact ⟨0, by omega, rfl, H0, HB0⟩
  case round =>
    obtain ⟨k, hk, rfl, HT, HB⟩ := hrel
    clear H0 HB0
    by_cases hlt : k < 16
    · have hcl : k < 4294967296 := by omega
      have hkc : (k : Int) % 4294967296 = k := by omega
      go_wp2_with fail
      refine (rest_any k _ hcl).mono ?_
      rintro e w' ⟨rfl, hw'⟩
      obtain rfl : wr = w' := hw'.symm
      clear hw'
      have h0 := (unhide HT) k hlt
      have h1 := h0.2
      have h0 := h0.1
      have HT1 : Hid (TAt (wr.setCell ⟨w.heap.size, k, none⟩ (.int .u32 ((half (k + 1) k : Nat) : Int))) w.heap.size (half (k + 1))) := (unhide HT).set k (fun j _ hj => by unfold half; by_cases h : j < k <;> simp [h] <;> omega)
      have hv : half (k + 1) k = st4 k := by unfold half; simp
      rw [hv] at HT1
      clear hv
      generalize half k k = z at h0
      generalize st4 k = v at HT1 ⊢
      go_wp2
      exact ⟨⟨k + 1, by omega, by go_num, HT1, (unhide HB).setCell (p := ⟨w.heap.size, k, none⟩) (Nat.le_refl _) _⟩, by simp [intOf]; omega⟩
    · obtain rfl : k = 16 := by omega
      go_upto_region 6 with fail
      go_step
      have HT2 : Hid (TAt wr w.heap.size st4) := fun j hj => by
        have k := (unhide HT) j hj
        unfold half at k
        rw [if_pos hj] at k
        exact k
      clear HT
      refine wpList_load_mid rfl 33 _ rfl w.heap.size 0 rfl (tcs st4) _ (unhide HT2).range Try.underlying33 rfl (arr_size st4) ?_
      simp only [Act.put, List.setIfInBounds_toArray, List.set_cons_zero, List.set_cons_succ]
      refine wpList_store_mid rfl 33 _ _ rfl w.heap.size 0 (tcs st4).toArray rfl rfl ((unhide HT2).there _) (by rw [arr_size st4]; simp) (tcs_ones _) ?_
      simp only [Act.put]
      have HT3 := hide ((unhide HT2).stored st4)
      have HB3 : Hid (Below w.heap.size w (wr.setCells w.heap.size 0 (tcs st4))) := setCells_below (unhide HB) (Nat.le_refl _)
      generalize wr.setCells w.heap.size 0 (tcs st4) = w2 at HT3 HB3 ⊢
      go_wp2
      refine bodyPost_ret (res_arr (B := w.heap.size) (f := st4) rfl rfl (unhide HT3)) rfl ?_
      exact ⟨rfl, unhide HB3⟩
set_option maxHeartbeats 4000000 in
theorem sum_core (b off cap : Nat) (s : Nat) (l : List Nat) (len : Nat) (w : World) (hs : s < 4294967296) (hlen : l.length = len) (hmx : len ≤ 140737488351232) (hr : ∀ x ∈ l, x < 256) (hc : ∀ j, j < l.length → w.cell? ⟨b, off + j, none⟩ = some (.int .u8 ((l.getD j 0 : Nat) : Int))) :
    Calls Try.prog 6 #[.int .u32 s, .slice (some ⟨b, off, none⟩) len cap] w fun e w' => e = .returned (.int .u32 (crc s l : Nat)) ∧ Below w.heap.size w w' := by
  have hsg : ¬ IntKind.u32.signed = true := by decide
  have HC := hide hc
  have HR := hide hr
  have HLEN := hide hlen
  have hng := op_neg s hs
  have hnl := neg_lt hs
  have HCR : Hid (crc s l = 4294967295 ^^^ run (4294967295 ^^^ s) l) := rfl
  generalize 4294967295 ^^^ s = r0 at hng hnl HCR
  generalize crc s l = res at HCR ⊢
  clear hc hr hlen
  go_enter Try.func6, Try.ntmps6
  go_wp2_with fail
  refine (table_any _).mono ?_
  rintro e w1 ⟨rfl, hb1⟩
  dsimp only
  go_step
  refine wpList_value rfl (arr_alloc _ _ _ _ _ _) ?_
  simp only [Act.put, List.setIfInBounds_toArray, List.set_cons_zero, List.set_cons_succ]
  refine wpList_skip rfl (arr_store _ _ _ _ _ _ _ st4 _ rfl rfl) ?_
  have HT : Hid (TAt (w1.alloc (.cells (tcs st4).toArray 33)) w1.heap.size st4) := TAt.new w1 st4
  have HB : Hid (Below w.heap.size w (w1.alloc (.cells (tcs st4).toArray 33))) := hb1.trans ((Below.refl _ _).alloc hb1.size _)
  have HC2 : Hid (∀ j, j < l.length → (w1.alloc (.cells (tcs st4).toArray 33)).cell? ⟨b, off + j, none⟩ = some (.int .u8 ((l.getD j 0 : Nat) : Int))) := fun j hj => ((unhide HB).cell (cell_lt ((unhide HC) j hj))).trans ((unhide HC) j hj)
  clear HC hb1
  generalize w1.heap.size = B at HT ⊢
  generalize w1.alloc (.cells (tcs st4).toArray 33) = w2 at HT HB HC2 ⊢
  go_wp2
  go_loopw [6, 14] (fun c i wr => ∃ (k r : Nat), k ≤ len ∧ i = .int .i64 k ∧ c = .int .u32 r ∧ r < 4294967296 ∧ Hid (run r0 (l.take k) = r) ∧ wr = w2) (fun _ i _ => len - (intOf i).toNat)
  case atStart => exact ⟨0, r0, Nat.zero_le _, rfl, rfl, hnl, rfl, rfl⟩
  case round =>
    obtain ⟨k, r, hk, rfl, rfl, hr4, HRN, hwr⟩ := hrel
    obtain rfl : w2 = wr := hwr.symm
    clear hng
    by_cases hlt : k < len
    · have hkl : k < l.length := by rw [unhide HLEN]; exact hlt
      have h0 := (unhide HC2) k hkl
      have HSN := hide (run_snoc r0 l k hkl)
      have hx : l.getD k 0 < 256 := (unhide HR) _ (by rw [List.getD_eq_getElem?_getD, List.getElem?_eq_getElem hkl]; exact List.getElem_mem hkl)
      generalize l.getD k 0 = x at h0 hx HSN
      have hox := op_xor r x hr4 hx
      have hxl : r ^^^ x < 4294967296 := xor_lt hr4 (by omega)
      have HB2 : Hid (run r0 (l.take (k + 1)) = st8 (r ^^^ x)) := by show _ = _; rw [unhide HSN, unhide HRN]; rfl
      generalize r ^^^ x = c0 at hox hxl HB2
      clear hkl HSN
      rw [st8_halves] at HB2
      have hl1 := op_low c0 hxl
      have hm1 : c0 % 16 < 16 := Nat.mod_lt _ (by decide)
      have hc1 := ((unhide HT) (c0 % 16) hm1).1
      have hv1 := op_half c0 (st4 (c0 % 16)) hxl (st4_lt (by omega))
      rw [← st4_tab c0] at hv1
      have hx1 := st4_lt hxl
      generalize st4 (c0 % 16) = t1 at hc1 hv1
      generalize c0 % 16 = m1 at hl1 hm1 hc1
      generalize st4 c0 = c1 at hv1 hx1 HB2
      have hl2 := op_low c1 hx1
      have hm2 : c1 % 16 < 16 := Nat.mod_lt _ (by decide)
      have hc2 := ((unhide HT) (c1 % 16) hm2).1
      have hv2 := op_half c1 (st4 (c1 % 16)) hx1 (st4_lt (by omega))
      rw [← st4_tab c1] at hv2
      have hx2 := st4_lt hx1
      generalize st4 (c1 % 16) = t2 at hc2 hv2
      generalize c1 % 16 = m2 at hl2 hm2 hc2
      generalize st4 c1 = c2 at hv2 hx2 HB2
      go_wp2
      exact ⟨⟨k + 1, c2, by omega, by go_num, rfl, hx2, unhide HB2, trivial⟩, by simp [intOf]; omega⟩
    · obtain rfl : k = len := by omega
      have hng := op_neg r hr4
      have HRES : Hid (res = 4294967295 ^^^ r) := by show _ = _; rw [unhide HCR, ← unhide HRN, List.take_of_length_le (Nat.le_of_eq (unhide HLEN))]
      generalize 4294967295 ^^^ r = z at hng HRES
      go_wp2
      go_ret
      exact ⟨by rw [unhide HRES]; rfl, unhide HB⟩
set_option maxHeartbeats 4000000 in
theorem sum_nil (s : Nat) (ao : Option Addr) (cap : Nat) (w : World) (hs : s < 4294967296) : Calls Try.prog 6 #[.int .u32 s, .slice ao 0 cap] w fun e w' => e = .returned (.int .u32 (crc s [] : Nat)) ∧ Below w.heap.size w w' := by
  have hsg : ¬ IntKind.u32.signed = true := by decide
  have hng := op_neg s hs
  have hnl := neg_lt hs
  have HCR : Hid (crc s [] = 4294967295 ^^^ (4294967295 ^^^ s)) := rfl
  have hn2 := op_neg _ hnl
  generalize 4294967295 ^^^ s = r0 at hng hnl HCR hn2
  generalize crc s [] = res at HCR ⊢
  generalize 4294967295 ^^^ r0 = z at HCR hn2
  go_enter Try.func6, Try.ntmps6
  go_wp2_with fail
  refine (table_any _).mono ?_
  rintro e w1 ⟨rfl, hb1⟩
  dsimp only
  go_step
  refine wpList_value rfl (arr_alloc _ _ _ _ _ _) ?_
  simp only [Act.put, List.setIfInBounds_toArray, List.set_cons_zero, List.set_cons_succ]
  refine wpList_skip rfl (arr_store _ _ _ _ _ _ _ st4 _ rfl rfl) ?_
  have HB : Hid (Below w.heap.size w (w1.alloc (.cells (tcs st4).toArray 33))) := hb1.trans ((Below.refl _ _).alloc hb1.size _)
  clear hb1
  generalize w1.heap.size = B
  generalize w1.alloc (.cells (tcs st4).toArray 33) = w2 at HB ⊢
  go_wp2
  refine wp_loop_rounds 1 ?_
  rw [rounds_succ]
  go_wp2
  go_ret
  exact ⟨by rw [unhide HCR]; rfl, unhide HB⟩
theorem sum_any (s : Nat) (v : Value) (l : List Nat) (w : World) (hs : s < 4294967296) (h : Nbs w v l) (hmx : l.length ≤ 140737488351232) : Calls Try.prog 6 #[.int .u32 s, v] w fun e w' => e = .returned (.int .u32 (crc s l : Nat)) ∧ Below w.heap.size w w' := by
  obtain ⟨ao, cap, rfl, _, hr, rfl | ⟨b, off, rfl, hc⟩⟩ := h
  · exact sum_nil s ao cap w hs
  · exact sum_core b off cap s l _ w hs rfl hmx hr hc
end Go.Proofs.Ytlomlhnmkhngjaa.C
