/- Proved here: rpc's write: the bytes of a message, in memory of their own. Helper contracts. -/
import Derived.Test.YtmmhdhpocjnlbaaGreatDoorZJRp
import Derived.Test.YtmmhdhpocjnlbaaGreatDoorZKTk
import Derived.Lib.AppendStr
import Derived.Deep.Cut
import Derived.Deep.CutBlock
import Derived.Deep.RegionHeld3
namespace Go.Proofs.YtmmhdhpocjnlbaaGreatDoor.Jr
open Go.RowKit Nt Et Qu
set_option maxRecDepth 100000

theorem info8 : (Tryz.prog.info? 5).map (fun i => (i.zero, i.size, i.bytes)) = some (some (.int .u8 0), 1, 1) := by kernel_rfl
theorem strCells_sb (s : ByteArray) : Lib.strCells s = (sb s).map (Value.int .u8) := by unfold Lib.strCells sb; rw [List.map_map]; rfl
theorem wn_get (k : Nat) (n : Int) : ∀ j, j < k → (wn k n)[j]? = some (n / 256 ^ (k - 1 - j) % 256) := by
  induction k with
  | zero => intro j hj; omega
  | succ k ih =>
    intro j hj
    cases j with
    | zero => show some _ = some _; rw [show k + 1 - 1 - 0 = k by omega]
    | succ j =>
      show (wn k n)[j]? = _
      rw [ih j (by omega), show k + 1 - 1 - (j + 1) = k - 1 - j by omega]
theorem wn_take (k : Nat) (n : Int) (j : Nat) (hj : j < k) : (wn k n).take (j + 1) = (wn k n).take j ++ [n / 256 ^ (k - 1 - j) % 256] := by
  have h := wn_get k n j hj
  have hl : j < (wn k n).length := by rw [wn_len]; exact hj
  rw [List.take_succ_eq_append_getElem hl]
  rw [List.getElem?_eq_getElem hl] at h
  rw [Option.some.inj h]
/-- blocks of other types than bytes stay -/
def Kp (w w' : World) : Prop := ∀ k cs t, t ≠ 5 → Bx w k cs t → Bx w' k cs t
theorem Kp.refl (w : World) : Kp w w := fun _ _ _ _ h => h
theorem Kp.trans {a b c : World} (h : Kp a b) (g : Kp b c) : Kp a c := fun k cs t ht hb => g k cs t ht (h k cs t ht hb)
theorem Kp.of_below {a b : World} (h : Below a.heap.size a b) : Kp a b := fun _ _ _ _ hb => hb.below h
theorem Kp.grow {w w1 : World} {B n : Nat} {v : Value} {xs : List Value} (ho : w.ownsRow B 5 1 v n xs) (hg : w.grownBy w1 v.ownBlock) : Kp w w1 := fun k cs t ht hb => by
  have hk := (Array.getElem?_eq_some_iff.1 hb).1
  refine (hg.block k hk (fun e => ?_)).trans hb
  rcases ho.2 with ⟨hv, _⟩ | ⟨g, cap, cur, hv, _, hgg, _⟩
  · rw [hv] at e; cases e
  · rw [hv] at e
    have e2 : k = g := Option.some.inj (show some k = some g from e)
    rw [← e2] at hgg
    have := hb.symm.trans hgg
    simp only [Option.some.injEq, Obj.cells.injEq] at this
    exact ht this.2.1
/-- bytes of one's own with more behind, nothing below B turned -/
def ApR (B : Nat) (xs : List Int) (e : Ending) (w w' : World) : Prop := ∃ v, e = .returned v ∧ Hid (w'.ownsRow B 5 1 v xs.length (xs.map (Value.int .u8))) ∧ Hid (Below B w w') ∧ B ≤ w'.heap.size ∧ Hid (Kp w w')
set_option maxHeartbeats 4000000 in
theorem appN_any (B : Nat) (v : Value) (xs : List Int) (n : Int) (k : Nat) (w : World) (hB : B ≤ w.heap.size) (hk : k ≤ 5) (hx : xs.length ≤ 34359738368) (h : w.ownsRow B 5 1 v xs.length (xs.map (Value.int .u8))) :
    Calls Tryz.prog 35 #[v, .int .i64 n, .int .i64 (k : Int)] w fun e w' => ApR B (xs ++ wn k n) e w w' := by
  obtain ⟨i0, hi, hz0, hz1, hz2⟩ := info_parts info8
  obtain ⟨X, hX⟩ : ∃ X, X = xs.length := ⟨_, rfl⟩
  rw [← hX] at h hx
  have HX := hide hX
  have HO := hide h
  clear h hX
  obtain ⟨ao, cp, rfl⟩ := owns_slice (unhide HO)
  have hk1 : IntKind.i64.wrap ((k : Int) - 1) = (k : Int) - 1 := by rw [IntKind.wrap_i64]; omega
  have hk2 : wrap64 ((k : Int) - 1) = (k : Int) - 1 := by unfold wrap64; omega
  go_enter Tryz.func35, Tryz.ntmps35
  go_wp2
  go_loopw [0, 7] (fun v i wr => ∃ (j : Nat) (q : Int), j ≤ k ∧ i = .int .i64 q ∧ q + 1 = (k : Int) - (j : Int) ∧ B ≤ wr.heap.size ∧ Hid (wr.ownsRow B 5 1 v (X + j) ((xs ++ (wn k n).take j).map (Value.int .u8))) ∧ Hid (Below B w wr) ∧ Hid (Kp w wr)) (fun _ i _ => (intOf i + 1).toNat)
  case atStart => exact ⟨0, (k : Int) - 1, Nat.zero_le _, rfl, by omega, hB, by show World.ownsRow _ _ _ _ _ _ _; simpa using unhide HO, Below.refl _ _, Kp.refl _⟩
  case round =>
    obtain ⟨j, q, hj, rfl, hq, hBr, HOW, HBE, HKP⟩ := hrel
    obtain ⟨ao', cp', rfl⟩ := owns_slice (unhide HOW)
    by_cases hlt : 0 ≤ q
    · have HT : Hid ((xs ++ (wn k n).take (j + 1)).map (Value.int .u8) = (xs ++ (wn k n).take j).map (Value.int .u8) ++ [.int .u8 (n / 256 ^ (k - 1 - j) % 256)]) := by
        show _ = _
        rw [wn_take k n j (by omega), ← List.append_assoc, List.map_append]
        rfl
      obtain ⟨d, hd⟩ : ∃ d, d = k - 1 - j := ⟨_, rfl⟩
      rw [← hd] at HT
      generalize (xs ++ (wn k n).take j).map (Value.int .u8) = Y at HT HOW
      have hdq : q = (d : Int) := by omega
      have hd4 : d ≤ 4 := by omega
      have hjn : X + j + 1 ≤ 34359738400 := by omega
      have hqq : IntKind.i64.wrap (q - 1) = q - 1 := by rw [IntKind.wrap_i64]; omega
      have hqq2 : wrap64 (q - 1) = q - 1 := by unfold wrap64; omega
      have fin : ∀ (u : Int), u = n / 256 ^ d % 256 → ∀ (v' : Value) (w1 : World), w1.ownsRow B 5 1 v' (X + j + 1) (Y ++ [.int .u8 u]) → (wr.alloc (.cells #[.int .u8 u] 5)).grownBy w1 (Value.slice ao' (X + j) cp').ownBlock → B ≤ w1.heap.size ∧ Hid (w1.ownsRow B 5 1 v' (X + (j + 1)) ((xs ++ (wn k n).take (j + 1)).map (Value.int .u8))) ∧ Hid (Below B w w1) ∧ Hid (Kp w w1) := by
        intro u hu v' w1 h1 h2
        have hs : B ≤ w1.heap.size := by
          have h3 := h2.size
          simp at h3
          omega
        refine ⟨hs, ?_, ?_, ?_⟩
        · show World.ownsRow _ _ _ _ _ _ _
          rw [unhide HT, ← hu]
          exact h1
        · exact ((unhide HBE).alloc hBr _).grown h2 (by simp; omega) (fun k hk => ((unhide HOW).lt k hk).1)
        · exact ((unhide HKP).trans (Kp.of_below ((Below.refl _ _).alloc (Nat.le_refl _) _))).trans (Kp.grow ((unhide HOW).alloc _) h2)
      have HFIN := hide fin
      clear HT HBE HKP fin hd
      have hd5 : d = 0 ∨ d = 1 ∨ d = 2 ∨ d = 3 ∨ d = 4 := by omega
      rcases hd5 with rfl | rfl | rfl | rfl | rfl
      · subst hdq
        go_wp2_with (first
          | (at_builtin; refine wpList_append_own _ rfl _ _ 29 rfl B 5 i0 _ 1 1 Tryz.underlying29 hi hz0 hz1 hz2 rfl (by decide) _ _ _ rfl ((unhide HOW).alloc _) ⟨wr.heap.size, 0, none⟩ 1 1 [.int .u8 (n % 256)] rfl rfl (one_cell _ _ _) (one_one _ _) (by unfold maxLen; omega) (by omega) (by simp; omega) ?_)
          | go_in)
        intro v' w1 h1 h2 _
        obtain ⟨g1, g2, g3, g4⟩ := unhide HFIN _ (by simp) v' w1 h1 h2
        clear h1 h2
        go_wp2
        go_roundw
        case rel => exact ⟨j + 1, _, by omega, rfl, by omega, g1, g2, g3, g4⟩
        case measure => simp [intOf]
      · subst hdq
        go_wp2_with (first
          | (at_builtin; refine wpList_append_own _ rfl _ _ 29 rfl B 5 i0 _ 1 1 Tryz.underlying29 hi hz0 hz1 hz2 rfl (by decide) _ _ _ rfl ((unhide HOW).alloc _) ⟨wr.heap.size, 0, none⟩ 1 1 [.int .u8 (n / 256 % 256)] rfl rfl (one_cell _ _ _) (one_one _ _) (by unfold maxLen; omega) (by omega) (by simp; omega) ?_)
          | go_in)
        intro v' w1 h1 h2 _
        obtain ⟨g1, g2, g3, g4⟩ := unhide HFIN _ (by simp) v' w1 h1 h2
        clear h1 h2
        go_wp2
        go_roundw
        case rel => exact ⟨j + 1, _, by omega, rfl, by omega, g1, g2, g3, g4⟩
        case measure => simp [intOf]
      · subst hdq
        go_wp2_with (first
          | (at_builtin; refine wpList_append_own _ rfl _ _ 29 rfl B 5 i0 _ 1 1 Tryz.underlying29 hi hz0 hz1 hz2 rfl (by decide) _ _ _ rfl ((unhide HOW).alloc _) ⟨wr.heap.size, 0, none⟩ 1 1 [.int .u8 (n / 65536 % 256)] rfl rfl (one_cell _ _ _) (one_one _ _) (by unfold maxLen; omega) (by omega) (by simp; omega) ?_)
          | go_in)
        intro v' w1 h1 h2 _
        obtain ⟨g1, g2, g3, g4⟩ := unhide HFIN _ (by simp) v' w1 h1 h2
        clear h1 h2
        go_wp2
        go_roundw
        case rel => exact ⟨j + 1, _, by omega, rfl, by omega, g1, g2, g3, g4⟩
        case measure => simp [intOf]
      · subst hdq
        go_wp2_with (first
          | (at_builtin; refine wpList_append_own _ rfl _ _ 29 rfl B 5 i0 _ 1 1 Tryz.underlying29 hi hz0 hz1 hz2 rfl (by decide) _ _ _ rfl ((unhide HOW).alloc _) ⟨wr.heap.size, 0, none⟩ 1 1 [.int .u8 (n / 16777216 % 256)] rfl rfl (one_cell _ _ _) (one_one _ _) (by unfold maxLen; omega) (by omega) (by simp; omega) ?_)
          | go_in)
        intro v' w1 h1 h2 _
        obtain ⟨g1, g2, g3, g4⟩ := unhide HFIN _ (by simp) v' w1 h1 h2
        clear h1 h2
        go_wp2
        go_roundw
        case rel => exact ⟨j + 1, _, by omega, rfl, by omega, g1, g2, g3, g4⟩
        case measure => simp [intOf]
      · subst hdq
        go_wp2_with (first
          | (at_builtin; refine wpList_append_own _ rfl _ _ 29 rfl B 5 i0 _ 1 1 Tryz.underlying29 hi hz0 hz1 hz2 rfl (by decide) _ _ _ rfl ((unhide HOW).alloc _) ⟨wr.heap.size, 0, none⟩ 1 1 [.int .u8 (n / 4294967296 % 256)] rfl rfl (one_cell _ _ _) (one_one _ _) (by unfold maxLen; omega) (by omega) (by simp; omega) ?_)
          | go_in)
        intro v' w1 h1 h2 _
        obtain ⟨g1, g2, g3, g4⟩ := unhide HFIN _ (by simp) v' w1 h1 h2
        clear h1 h2
        go_wp2
        go_roundw
        case rel => exact ⟨j + 1, _, by omega, rfl, by omega, g1, g2, g3, g4⟩
        case measure => simp [intOf]
    · have hjk : j = k := by omega
      have HZ : Hid (wr.ownsRow B 5 1 (.slice ao' (X + k) cp') (xs ++ wn k n).length ((xs ++ wn k n).map (Value.int .u8))) := by
        have := unhide HOW
        rw [hjk, List.take_of_length_le (by rw [wn_len]; exact Nat.le_refl _)] at this
        rw [List.length_append, wn_len, ← unhide HX]
        exact this
      clear HOW
      go_wp2
      go_ret
      exact ⟨_, rfl, HZ, HBE, hBr, HKP⟩
set_option maxHeartbeats 2000000 in
theorem appT_any (B : Nat) (v : Value) (xs : List Int) (d : ByteArray) (k : Nat) (w : World) (hB : B ≤ w.heap.size) (hk : k ≤ 5) (hd : d.size ≤ 4294967296) (hx : xs.length ≤ 34359738368) (h : w.ownsRow B 5 1 v xs.length (xs.map (Value.int .u8))) :
    Calls Tryz.prog 36 #[v, .string d, .int .i64 (k : Int)] w fun e w' => ApR B (xs ++ wt k d) e w w' := by
  obtain ⟨i0, hi, hz0, hz1, hz2⟩ := info_parts info8
  have HC := hide (appN_any B v xs (d.size : Nat) k w hB hk hx h)
  obtain ⟨ao, cp, rfl⟩ := owns_slice h
  have hl : (xs ++ wn k (d.size : Nat)).length ≤ 34359738400 := by rw [List.length_append, wn_len]; omega
  have HE : Hid (xs ++ wt k d = (xs ++ wn k (d.size : Nat)) ++ sb d) := by show _ = _; unfold wt; rw [List.append_assoc]
  have HS := hide (sb_length d)
  generalize xs ++ wn k (d.size : Nat) = ys at HC hl HE
  clear h
  go_enter Tryz.func36, Tryz.ntmps36
  go_wp2_with fail
  refine (unhide HC).mono ?_
  rintro e w1 ⟨v1, rfl, HO1, HB1, hs1, HK1⟩
  obtain ⟨ao1, cp1, rfl⟩ := owns_slice (unhide HO1)
  clear HC
  generalize hY : ys.map (Value.int .u8) = Y at HO1
  have HY := hide hY
  generalize hL : ys.length = L at HO1 hl
  have HL := hide hL
  clear hY hL
  go_wp2_with (first
    | (at_builtin; refine Lib.wpList_append_own_string _ rfl _ _ 29 9 rfl B 5 i0 Tryz.underlying29 Tryz.underlying9 hi hz0 hz1 hz2 _ _ _ rfl (unhide HO1) d rfl (by unfold maxLen; omega) (by omega) hs1 ?_)
    | go_in)
  intro v2 w2 hown2 hgrow2 _
  have HB2 : Hid (Below B w w2) := (unhide HB1).grown hgrow2 hs1 (fun k hk => ((unhide HO1).lt k hk).1)
  have hs2 : B ≤ w2.heap.size := Nat.le_trans hs1 hgrow2.size
  have HK2 : Hid (Kp w w2) := (unhide HK1).trans (Kp.grow (unhide HO1) hgrow2)
  have HO2 : Hid (w2.ownsRow B 5 1 v2 (xs ++ wt k d).length ((xs ++ wt k d).map (Value.int .u8))) := by
    show World.ownsRow _ _ _ _ _ _ _
    rw [unhide HE, List.length_append, List.map_append, unhide HL, unhide HS, unhide HY, ← strCells_sb]
    exact hown2
  clear hown2 hgrow2 HO1
  go_wp2
  go_ret
  exact ⟨_, rfl, HO2, HB2, hs2, HK2⟩
theorem flag_wf (b : Bool) (w : World) : Calls Tryz.prog 34 #[.bool b] w fun e w' => e = .returned (.int .u8 (wf b)) ∧ w' = w := by
  cases b
  · go_enter Tryz.func34, Tryz.ntmps34
    go_wp2
    go_ret
    exact ⟨rfl, rfl⟩
  · go_enter Tryz.func34, Tryz.ntmps34
    go_wp2
    go_ret
    exact ⟨rfl, rfl⟩
theorem lit_own (w : World) (l : List Int) (n : Nat) (h : l.length = n) (hm : n ≤ 1000000) : (w.alloc (.cells (l.map (Value.int .u8)).toArray 5)).ownsRow w.heap.size 5 1 (.slice (some ⟨w.heap.size, 0, none⟩) n n) n (l.map (Value.int .u8)) := by
  subst h
  refine ⟨by simp, .inr ⟨w.heap.size, l.length, (l.map (Value.int .u8)).toArray, rfl, Nat.le_refl _, (by show (Array.push w.heap _)[w.heap.size]? = _; rw [Array.getElem?_push_size]), Nat.le_refl _, by unfold maxLen; omega, by simp, by rw [Nat.mul_one]; exact List.take_of_length_le (by simp)⟩⟩
/-- the first four bytes -/
def hd4 (k f t : Int) (ok : Bool) : List Int := [k % 256, f % 256, t % 256, wf ok]
theorem wb_parts (k f t te ix lt co : Int) (ok : Bool) (es : List En) (ms : List Int) (dt : ByteArray) : wb ⟨k, f, t, te, ix, lt, co, ok, es, ms, dt⟩ = ((((hd4 k f t ok ++ [te, ix, lt, co].flatMap (wn 5)) ++ wn 1 (es.length : Nat)) ++ es.flatMap we) ++ wn 1 (ms.length : Nat) ++ ms.flatMap (wn 1)) ++ wt 4 dt := by
  unfold wb hd4
  simp [wn]
theorem we_len {e : En} (h : e.2.2.2.size ≤ 65535) : (we e).length ≤ 65543 := by
  unfold we wt
  simp only [List.length_append, wn_len, sb_length]
  omega
theorem flat_snoc {α : Type} (l : List α) (f : α → List Int) (j : Nat) (h : j < l.length) : (l.take (j + 1)).flatMap f = (l.take j).flatMap f ++ f l[j] := by
  rw [List.take_succ_eq_append_getElem h, List.flatMap_append]
  simp
end Go.Proofs.YtmmhdhpocjnlbaaGreatDoor.Jr
