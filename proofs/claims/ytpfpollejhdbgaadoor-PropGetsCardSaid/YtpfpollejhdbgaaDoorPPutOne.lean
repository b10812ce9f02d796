/- Proved here: prop's putPair, putValue and putOne tell one property's bytes, or an error of below. Helper contracts. -/
import Derived.Test.YtpfpollejhdbgaaDoorPTake
import Derived.Test.YtpfpollejhdbgaaDoorPPutNum
import Derived.Test.YtpfpollejhdbgaaDoorTRefText
namespace Go.Proofs.YtpfpollejhdbgaaDoor
open Go.RowKit
set_option maxRecDepth 100000

/-- bytes l, and no error -/
def ValOk (l : List Int) (w : World) (e : Ending) (w' : World) : Prop := ∃ v, e = .returned (.tuple #[v, .nilIface]) ∧ Hid (Byt w' v l) ∧ Below w.heap.size w w'
/-- an error of below -/
def ValBad (w : World) (e : Ending) (w' : World) : Prop := ∃ t x n, e = .returned (.tuple #[.slice none 0 0, .iface t x]) ∧ Hid (Inn w' (.iface t x) n) ∧ Below w.heap.size w w'
theorem range_app {xs ys : List Int} (hx : ∀ j, 0 ≤ xs.getD j 0 ∧ xs.getD j 0 ≤ 255) (hy : ∀ j, 0 ≤ ys.getD j 0 ∧ ys.getD j 0 ≤ 255) : ∀ j, 0 ≤ (xs ++ ys).getD j 0 ∧ (xs ++ ys).getD j 0 ≤ 255 := by
  intro j
  rcases Nat.lt_or_ge j xs.length with h | h
  · rw [List.getD_eq_getElem?_getD, List.getElem?_append_left h, ← List.getD_eq_getElem?_getD]; exact hx j
  · rw [List.getD_eq_getElem?_getD, List.getElem?_append_right h, ← List.getD_eq_getElem?_getD]; exact hy _
theorem tput_ok (s : ByteArray) (w : World) (hc : chk (sb s) = 0) : Calls Tryd.prog 69 #[.string s] w (fun e w' => ∃ v, e = .returned (.tuple #[v, .nilIface]) ∧ Hid (w'.ownsRow w.heap.size 5 1 v (2 + s.size) ((tx s).map (Value.int .u8))) ∧ Hid (Byt w' v (tx s)) ∧ Below w.heap.size w w') := by
  refine (put_ok s w hc).mono ?_
  rintro e w' ⟨v, rfl, hown, hb⟩
  exact ⟨v, rfl, hown, byt_of_owns (unhide hown) (tx_range s (by have := chk_0 hc; rw [sb_length] at this; exact this)), hb⟩
theorem tput_bad (s : ByteArray) (w : World) (hs : s.size ≤ 4611686018427387904) (hc : chk (sb s) ≠ 0) : Calls Tryd.prog 69 #[.string s] w (fun e w' => ∃ x n, e = .returned (.tuple #[.slice none 0 0, .iface 79 x]) ∧ Hid (Inn w' (.iface 79 x) n) ∧ Below w.heap.size w w') := by
  refine (put_bad s _ w hs rfl hc).mono ?_
  rintro e w' ⟨rfl, rfl⟩
  exact ⟨_, chk (sb s), rfl, .inr ⟨_, rfl, by simp⟩, fault_below _ _⟩
set_option maxHeartbeats 1000000 in
theorem pair_ok (s t : ByteArray) (w : World) (hs : chk (sb s) = 0) (ht : chk (sb t) = 0) : Calls Tryd.prog 71 #[.string s, .string t] w (ValOk (tx s ++ tx t) w) := by
  have ls : s.size ≤ 65535 := by have := chk_0 hs; rw [sb_length] at this; exact this
  have lt : t.size ≤ 65535 := by have := chk_0 ht; rw [sb_length] at this; exact this
  have HS := hide hs
  have HT := hide ht
  clear hs ht
  go_enter Tryd.func71, Tryd.ntmps71
  go_wp2_with fail
  refine (tput_ok s _ (unhide HS)).mono ?_
  rintro e w1 ⟨v1, rfl, hown1, -, hb1⟩
  have HB1 := hide hb1
  clear hb1
  go_wp2_with fail
  refine (tput_ok t _ (unhide HT)).mono ?_
  rintro e w2 ⟨v2, rfl, -, hy2, hb2⟩
  have HO2 : Hid (w2.ownsRow w.heap.size 5 1 v1 (2 + s.size) ((tx s).map (Value.int .u8))) := owns_below (unhide hown1) hb2
  have HB2 : Hid (Below w.heap.size w w2) := (unhide HB1).trans (hb2.mono (unhide HB1).size)
  clear hb2 HB1 hown1
  go_wp2_with (first
    | (at_builtin; refine wpList_append_byt _ rfl _ _ rfl w.heap.size _ (2 + s.size) (tx s) rfl (unhide HO2) v2 (tx t) rfl (unhide hy2) (by rw [tx_length]; omega) (unhide HB2).size ?_)
    | go_in)
  intro v3 w3 hown3 hgrow3
  have hb3 : Below w.heap.size w w3 := (unhide HB2).grown hgrow3 (unhide HB2).size (fun k hk => ((unhide HO2).lt k hk).1)
  have HY3 : Hid (Byt w3 v3 (tx s ++ tx t)) := byt_of_owns (by rw [List.map_append]; exact hown3) (range_app (tx_range s ls) (tx_range t lt))
  clear hown3 hgrow3
  go_wp2
  go_ret2
  exact ⟨_, rfl, HY3, hb3⟩
theorem pair_bad1 (s t : ByteArray) (w : World) (hl : s.size ≤ 4611686018427387904) (hs : chk (sb s) ≠ 0) : Calls Tryd.prog 71 #[.string s, .string t] w (ValBad w) := by
  have HS := hide hs
  clear hs
  go_enter Tryd.func71, Tryd.ntmps71
  go_wp2_with fail
  refine (tput_bad s _ hl (unhide HS)).mono ?_
  rintro e w1 ⟨x, n, rfl, hi, hb1⟩
  go_wp2
  go_ret2
  exact ⟨_, _, _, rfl, hi, hb1⟩
theorem pair_bad2 (s t : ByteArray) (w : World) (hl : t.size ≤ 4611686018427387904) (hs : chk (sb s) = 0) (ht : chk (sb t) ≠ 0) : Calls Tryd.prog 71 #[.string s, .string t] w (ValBad w) := by
  have HS := hide hs
  have HT := hide ht
  clear hs ht
  go_enter Tryd.func71, Tryd.ntmps71
  go_wp2_with fail
  refine (tput_ok s _ (unhide HS)).mono ?_
  rintro e w1 ⟨v1, rfl, -, -, hb1⟩
  have HB1 := hide hb1
  clear hb1
  go_wp2_with fail
  refine (tput_bad t _ hl (unhide HT)).mono ?_
  rintro e w2 ⟨x, n, rfl, hi, hb2⟩
  go_wp2
  go_ret2
  exact ⟨_, _, _, rfl, hi, (unhide HB1).trans (hb2.mono (unhide HB1).size)⟩
theorem vput_use (n : Int) (w : World) (h0 : 0 ≤ n) (h1 : n ≤ 268435455) : Calls Tryd.prog 30 #[.int .i64 n] w (fun e w' => ∃ v, e = .returned (.tuple #[v, .nilIface]) ∧ Hid (w'.ownsRow w.heap.size 5 1 v (V.put n).length ((V.put n).map (Value.int .u8))) ∧ Hid (Byt w' v (V.put n)) ∧ Below w.heap.size w w') := by
  refine (V.put_use n w h0 h1).mono ?_
  rintro e w' ⟨m, rfl, rfl, hown, hb⟩
  exact ⟨_, rfl, hown, byt_of_owns (unhide hown) (V.put_range n h0 h1), hb⟩
theorem nbs_range (k n : Int) (hk : k = 1 ∧ n ≤ 1 ∨ k = 2 ∧ n ≤ 65535 ∨ k = 4 ∧ n ≤ 4294967295) (h0 : 0 ≤ n) : ∀ j, 0 ≤ (nbs k n).getD j 0 ∧ (nbs k n).getD j 0 ≤ 255 := by
  intro j
  unfold nbs
  rcases hk with ⟨rfl, h⟩ | ⟨rfl, h⟩ | ⟨rfl, h⟩
  · rw [if_pos rfl]
    rcases j with _ | j <;> simp <;> omega
  · rw [if_neg (by omega), if_pos rfl]
    rcases j with _ | _ | j <;> simp <;> omega
  · rw [if_neg (by omega), if_neg (by omega)]
    rcases j with _ | _ | _ | _ | j <;> simp <;> omega
/-- putNumber's answer, as a caller uses it -/
theorem number_use (k n : Int) (w : World) (hk : k = 1 ∧ n ≤ 1 ∨ k = 2 ∧ n ≤ 65535 ∨ k = 4 ∧ n ≤ 4294967295) (h0 : 0 ≤ n) : Calls Tryd.prog 68 #[.int .i64 n, .int .i64 k] w (fun e w' => ∃ v, e = .returned v ∧ Hid (Byt w' v (nbs k n)) ∧ Below w.heap.size w w') := by
  have hr := nbs_range k n hk h0
  have key : ∀ e w', NumPost k n w e w' → ∃ v, e = .returned v ∧ Hid (Byt w' v (nbs k n)) ∧ Below w.heap.size w w' := by
    rintro e w' ⟨v, rfl, hown, hb⟩
    exact ⟨v, rfl, byt_of_owns (unhide hown) hr, hb⟩
  rcases hk with ⟨rfl, h⟩ | ⟨rfl, h⟩ | ⟨rfl, h⟩
  · exact (num_1 n w h0 h).mono key
  · exact (num_2 n w h0 h).mono key
  · exact (num_4 n w h0 h).mono key
def numK (k n : Int) : Prop := k = 1 ∧ n ≤ 1 ∨ k = 2 ∧ n ≤ 65535 ∨ k = 4 ∧ n ≤ 4294967295
theorem value_num (id n k : Int) (s t : ByteArray) (w : World) (lo hi : Int) (hsh : shv id = .agg #[.int .i64 1, .int .i64 k, .int .i64 lo, .int .i64 hi]) (hk : numK k n) (h0 : 0 ≤ n) :
    Calls Tryd.prog 58 #[.agg #[.int .i64 id, .int .i64 n, .string s, .string t]] w (ValOk (nbs k n) w) := by
  have HSH := hide hsh
  have HK := hide hk
  clear hsh hk
  go_enter Tryd.func58, Tryd.ntmps58
  go_wp2_with fail
  refine (shape_use id 1 k lo hi (unhide HSH) _).mono ?_
  rintro e w1 ⟨rfl, hb1⟩
  have HB1 : Hid (Below w.heap.size w w1) := ((Below.refl _ _).alloc (Nat.le_refl _) _).trans (hb1.mono (by simp))
  have c1 : w1.cell? ⟨w.heap.size, 1, none⟩ = some (.int .i64 n) := (hb1.cell (p := ⟨w.heap.size, 1, none⟩) (by simp)).trans (by simp)
  have c2 : w1.cell? ⟨w.heap.size, 2, none⟩ = some (.string s) := (hb1.cell (p := ⟨w.heap.size, 2, none⟩) (by simp)).trans (by simp)
  have c3 : w1.cell? ⟨w.heap.size, 3, none⟩ = some (.string t) := (hb1.cell (p := ⟨w.heap.size, 3, none⟩) (by simp)).trans (by simp)
  have hlt : w.heap.size < w1.heap.size := cell_lt c1
  clear hb1
  go_wp2_with fail
  refine (number_use k n _ (unhide HK) h0).mono ?_
  rintro e w2 ⟨v, rfl, hy, hb2⟩
  go_wp2
  go_ret2
  exact ⟨_, rfl, hy, (((unhide HB1).alloc (unhide HB1).size _).trans (hb2.mono (by simp; omega)))⟩
set_option maxHeartbeats 1000000 in
theorem value_var (id n : Int) (s t : ByteArray) (w : World) (wd lo hi : Int) (hsh : shv id = .agg #[.int .i64 2, .int .i64 wd, .int .i64 lo, .int .i64 hi]) (h0 : 0 ≤ n) (h1 : n ≤ 268435455) :
    Calls Tryd.prog 58 #[.agg #[.int .i64 id, .int .i64 n, .string s, .string t]] w (ValOk (V.put n) w) := by
  have HSH := hide hsh
  clear hsh
  go_enter Tryd.func58, Tryd.ntmps58
  go_wp2_with fail
  refine (shape_use id 2 wd lo hi (unhide HSH) _).mono ?_
  rintro e w1 ⟨rfl, hb1⟩
  have HB1 : Hid (Below w.heap.size w w1) := ((Below.refl _ _).alloc (Nat.le_refl _) _).trans (hb1.mono (by simp))
  have c1 : w1.cell? ⟨w.heap.size, 1, none⟩ = some (.int .i64 n) := (hb1.cell (p := ⟨w.heap.size, 1, none⟩) (by simp)).trans (by simp)
  have c2 : w1.cell? ⟨w.heap.size, 2, none⟩ = some (.string s) := (hb1.cell (p := ⟨w.heap.size, 2, none⟩) (by simp)).trans (by simp)
  have c3 : w1.cell? ⟨w.heap.size, 3, none⟩ = some (.string t) := (hb1.cell (p := ⟨w.heap.size, 3, none⟩) (by simp)).trans (by simp)
  have hlt : w.heap.size < w1.heap.size := cell_lt c1
  clear hb1
  go_wp2_with fail
  refine (vput_use n _ h0 h1).mono ?_
  rintro e w2 ⟨v, rfl, -, hy, hb2⟩
  go_wp2
  go_ret2
  exact ⟨_, rfl, hy, (((unhide HB1).alloc (unhide HB1).size _).trans (hb2.mono (by simp; omega)))⟩
set_option maxHeartbeats 1000000 in
theorem value_text (id n : Int) (s t : ByteArray) (w : World) (wd lo hi : Int) (hsh : shv id = .agg #[.int .i64 3, .int .i64 wd, .int .i64 lo, .int .i64 hi]) (hc : chk (sb s) = 0) :
    Calls Tryd.prog 58 #[.agg #[.int .i64 id, .int .i64 n, .string s, .string t]] w (ValOk (tx s) w) := by
  have HSH := hide hsh
  clear hsh
  have Hhc := hide hc
  clear hc
  go_enter Tryd.func58, Tryd.ntmps58
  go_wp2_with fail
  refine (shape_use id 3 wd lo hi (unhide HSH) _).mono ?_
  rintro e w1 ⟨rfl, hb1⟩
  have HB1 : Hid (Below w.heap.size w w1) := ((Below.refl _ _).alloc (Nat.le_refl _) _).trans (hb1.mono (by simp))
  have c1 : w1.cell? ⟨w.heap.size, 1, none⟩ = some (.int .i64 n) := (hb1.cell (p := ⟨w.heap.size, 1, none⟩) (by simp)).trans (by simp)
  have c2 : w1.cell? ⟨w.heap.size, 2, none⟩ = some (.string s) := (hb1.cell (p := ⟨w.heap.size, 2, none⟩) (by simp)).trans (by simp)
  have c3 : w1.cell? ⟨w.heap.size, 3, none⟩ = some (.string t) := (hb1.cell (p := ⟨w.heap.size, 3, none⟩) (by simp)).trans (by simp)
  have hlt : w.heap.size < w1.heap.size := cell_lt c1
  clear hb1
  go_wp2_with fail
  refine (tput_ok s _ (unhide Hhc)).mono ?_
  rintro e w2 ⟨v, rfl, -, hy, hb2⟩
  go_wp2
  go_ret2
  exact ⟨_, rfl, hy, (((unhide HB1).alloc (unhide HB1).size _).trans (hb2.mono (by simp; omega)))⟩
set_option maxHeartbeats 1000000 in
theorem value_text_bad (id n : Int) (s t : ByteArray) (w : World) (wd lo hi : Int) (hsh : shv id = .agg #[.int .i64 3, .int .i64 wd, .int .i64 lo, .int .i64 hi]) (hl : s.size ≤ 4611686018427387904) (hc : chk (sb s) ≠ 0) :
    Calls Tryd.prog 58 #[.agg #[.int .i64 id, .int .i64 n, .string s, .string t]] w (ValBad w) := by
  have HSH := hide hsh
  clear hsh
  have Hhc := hide hc
  clear hc
  go_enter Tryd.func58, Tryd.ntmps58
  go_wp2_with fail
  refine (shape_use id 3 wd lo hi (unhide HSH) _).mono ?_
  rintro e w1 ⟨rfl, hb1⟩
  have HB1 : Hid (Below w.heap.size w w1) := ((Below.refl _ _).alloc (Nat.le_refl _) _).trans (hb1.mono (by simp))
  have c1 : w1.cell? ⟨w.heap.size, 1, none⟩ = some (.int .i64 n) := (hb1.cell (p := ⟨w.heap.size, 1, none⟩) (by simp)).trans (by simp)
  have c2 : w1.cell? ⟨w.heap.size, 2, none⟩ = some (.string s) := (hb1.cell (p := ⟨w.heap.size, 2, none⟩) (by simp)).trans (by simp)
  have c3 : w1.cell? ⟨w.heap.size, 3, none⟩ = some (.string t) := (hb1.cell (p := ⟨w.heap.size, 3, none⟩) (by simp)).trans (by simp)
  have hlt : w.heap.size < w1.heap.size := cell_lt c1
  clear hb1
  go_wp2_with fail
  refine (tput_bad s _ hl (unhide Hhc)).mono ?_
  rintro e w2 ⟨x, m, rfl, hy, hb2⟩
  go_wp2
  go_ret2
  exact ⟨_, _, _, rfl, hy, (((unhide HB1).alloc (unhide HB1).size _).trans (hb2.mono (by simp; omega)))⟩
set_option maxHeartbeats 1000000 in
theorem value_bin (id n : Int) (s t : ByteArray) (w : World) (wd lo hi : Int) (hsh : shv id = .agg #[.int .i64 4, .int .i64 wd, .int .i64 lo, .int .i64 hi]) (hc : s.size ≤ 65535) :
    Calls Tryd.prog 58 #[.agg #[.int .i64 id, .int .i64 n, .string s, .string t]] w (ValOk (tx s) w) := by
  have HSH := hide hsh
  clear hsh
  go_enter Tryd.func58, Tryd.ntmps58
  go_wp2_with fail
  refine (shape_use id 4 wd lo hi (unhide HSH) _).mono ?_
  rintro e w1 ⟨rfl, hb1⟩
  have HB1 : Hid (Below w.heap.size w w1) := ((Below.refl _ _).alloc (Nat.le_refl _) _).trans (hb1.mono (by simp))
  have c1 : w1.cell? ⟨w.heap.size, 1, none⟩ = some (.int .i64 n) := (hb1.cell (p := ⟨w.heap.size, 1, none⟩) (by simp)).trans (by simp)
  have c2 : w1.cell? ⟨w.heap.size, 2, none⟩ = some (.string s) := (hb1.cell (p := ⟨w.heap.size, 2, none⟩) (by simp)).trans (by simp)
  have c3 : w1.cell? ⟨w.heap.size, 3, none⟩ = some (.string t) := (hb1.cell (p := ⟨w.heap.size, 3, none⟩) (by simp)).trans (by simp)
  have hlt : w.heap.size < w1.heap.size := cell_lt c1
  clear hb1
  go_wp2_with fail
  refine (putBin_ok s _ hc).mono ?_
  rintro e w2 ⟨v, rfl, hown, hb2⟩
  have hy : Hid (Byt w2 v (tx s)) := byt_of_owns (unhide hown) (tx_range s hc)
  go_wp2
  go_ret2
  exact ⟨_, rfl, hy, (((unhide HB1).alloc (unhide HB1).size _).trans (hb2.mono (by simp; omega)))⟩
set_option maxHeartbeats 1000000 in
theorem value_bin_bad (id n : Int) (s t : ByteArray) (w : World) (wd lo hi : Int) (hsh : shv id = .agg #[.int .i64 4, .int .i64 wd, .int .i64 lo, .int .i64 hi]) (hc : 65535 < s.size) :
    Calls Tryd.prog 58 #[.agg #[.int .i64 id, .int .i64 n, .string s, .string t]] w (ValBad w) := by
  have HSH := hide hsh
  clear hsh
  go_enter Tryd.func58, Tryd.ntmps58
  go_wp2_with fail
  refine (shape_use id 4 wd lo hi (unhide HSH) _).mono ?_
  rintro e w1 ⟨rfl, hb1⟩
  have HB1 : Hid (Below w.heap.size w w1) := ((Below.refl _ _).alloc (Nat.le_refl _) _).trans (hb1.mono (by simp))
  have c1 : w1.cell? ⟨w.heap.size, 1, none⟩ = some (.int .i64 n) := (hb1.cell (p := ⟨w.heap.size, 1, none⟩) (by simp)).trans (by simp)
  have c2 : w1.cell? ⟨w.heap.size, 2, none⟩ = some (.string s) := (hb1.cell (p := ⟨w.heap.size, 2, none⟩) (by simp)).trans (by simp)
  have c3 : w1.cell? ⟨w.heap.size, 3, none⟩ = some (.string t) := (hb1.cell (p := ⟨w.heap.size, 3, none⟩) (by simp)).trans (by simp)
  have hlt : w.heap.size < w1.heap.size := cell_lt c1
  clear hb1
  go_wp2_with fail
  refine (putBin_bad s _ hc).mono ?_
  rintro e w2 ⟨rfl, hw2⟩
  have hb2 : Below _ _ w2 := hw2 ▸ fault_below 2 _
  have hy : Hid (Inn w2 (.iface 79 (.pointer (some ⟨w1.heap.size + 1, 0, none⟩))) 2) := .inr ⟨_, rfl, by rw [hw2]; simp⟩
  clear hw2
  go_wp2
  go_ret2
  exact ⟨_, _, _, rfl, hy, (((unhide HB1).alloc (unhide HB1).size _).trans (hb2.mono (by simp; omega)))⟩
set_option maxHeartbeats 1000000 in
theorem value_pair (id n : Int) (s t : ByteArray) (w : World) (wd lo hi : Int) (hsh : shv id = .agg #[.int .i64 5, .int .i64 wd, .int .i64 lo, .int .i64 hi]) (hc : chk (sb s) = 0) (hd : chk (sb t) = 0) :
    Calls Tryd.prog 58 #[.agg #[.int .i64 id, .int .i64 n, .string s, .string t]] w (ValOk (tx s ++ tx t) w) := by
  have HSH := hide hsh
  clear hsh
  have Hhc := hide hc
  clear hc
  have Hhd := hide hd
  clear hd
  go_enter Tryd.func58, Tryd.ntmps58
  go_wp2_with fail
  refine (shape_use id 5 wd lo hi (unhide HSH) _).mono ?_
  rintro e w1 ⟨rfl, hb1⟩
  have HB1 : Hid (Below w.heap.size w w1) := ((Below.refl _ _).alloc (Nat.le_refl _) _).trans (hb1.mono (by simp))
  have c1 : w1.cell? ⟨w.heap.size, 1, none⟩ = some (.int .i64 n) := (hb1.cell (p := ⟨w.heap.size, 1, none⟩) (by simp)).trans (by simp)
  have c2 : w1.cell? ⟨w.heap.size, 2, none⟩ = some (.string s) := (hb1.cell (p := ⟨w.heap.size, 2, none⟩) (by simp)).trans (by simp)
  have c3 : w1.cell? ⟨w.heap.size, 3, none⟩ = some (.string t) := (hb1.cell (p := ⟨w.heap.size, 3, none⟩) (by simp)).trans (by simp)
  have hlt : w.heap.size < w1.heap.size := cell_lt c1
  clear hb1
  go_wp2_with fail
  refine (pair_ok s t _ (unhide Hhc) (unhide Hhd)).mono ?_
  rintro e w2 ⟨v, rfl, hy, hb2⟩
  go_wp2
  go_ret2
  exact ⟨_, rfl, hy, (((unhide HB1).alloc (unhide HB1).size _).trans (hb2.mono (by simp; omega)))⟩
set_option maxHeartbeats 1000000 in
theorem value_pair_bad1 (id n : Int) (s t : ByteArray) (w : World) (wd lo hi : Int) (hsh : shv id = .agg #[.int .i64 5, .int .i64 wd, .int .i64 lo, .int .i64 hi]) (hl : s.size ≤ 4611686018427387904) (hc : chk (sb s) ≠ 0) :
    Calls Tryd.prog 58 #[.agg #[.int .i64 id, .int .i64 n, .string s, .string t]] w (ValBad w) := by
  have HSH := hide hsh
  clear hsh
  have Hhc := hide hc
  clear hc
  go_enter Tryd.func58, Tryd.ntmps58
  go_wp2_with fail
  refine (shape_use id 5 wd lo hi (unhide HSH) _).mono ?_
  rintro e w1 ⟨rfl, hb1⟩
  have HB1 : Hid (Below w.heap.size w w1) := ((Below.refl _ _).alloc (Nat.le_refl _) _).trans (hb1.mono (by simp))
  have c1 : w1.cell? ⟨w.heap.size, 1, none⟩ = some (.int .i64 n) := (hb1.cell (p := ⟨w.heap.size, 1, none⟩) (by simp)).trans (by simp)
  have c2 : w1.cell? ⟨w.heap.size, 2, none⟩ = some (.string s) := (hb1.cell (p := ⟨w.heap.size, 2, none⟩) (by simp)).trans (by simp)
  have c3 : w1.cell? ⟨w.heap.size, 3, none⟩ = some (.string t) := (hb1.cell (p := ⟨w.heap.size, 3, none⟩) (by simp)).trans (by simp)
  have hlt : w.heap.size < w1.heap.size := cell_lt c1
  clear hb1
  go_wp2_with fail
  refine (pair_bad1 s t _ hl (unhide Hhc)).mono ?_
  rintro e w2 ⟨t', x, m, rfl, hy, hb2⟩
  go_wp2
  go_ret2
  exact ⟨_, _, _, rfl, hy, (((unhide HB1).alloc (unhide HB1).size _).trans (hb2.mono (by simp; omega)))⟩
set_option maxHeartbeats 1000000 in
theorem value_pair_bad2 (id n : Int) (s t : ByteArray) (w : World) (wd lo hi : Int) (hsh : shv id = .agg #[.int .i64 5, .int .i64 wd, .int .i64 lo, .int .i64 hi]) (hl : t.size ≤ 4611686018427387904) (hc : chk (sb s) = 0) (hd : chk (sb t) ≠ 0) :
    Calls Tryd.prog 58 #[.agg #[.int .i64 id, .int .i64 n, .string s, .string t]] w (ValBad w) := by
  have HSH := hide hsh
  clear hsh
  have Hhc := hide hc
  clear hc
  have Hhd := hide hd
  clear hd
  go_enter Tryd.func58, Tryd.ntmps58
  go_wp2_with fail
  refine (shape_use id 5 wd lo hi (unhide HSH) _).mono ?_
  rintro e w1 ⟨rfl, hb1⟩
  have HB1 : Hid (Below w.heap.size w w1) := ((Below.refl _ _).alloc (Nat.le_refl _) _).trans (hb1.mono (by simp))
  have c1 : w1.cell? ⟨w.heap.size, 1, none⟩ = some (.int .i64 n) := (hb1.cell (p := ⟨w.heap.size, 1, none⟩) (by simp)).trans (by simp)
  have c2 : w1.cell? ⟨w.heap.size, 2, none⟩ = some (.string s) := (hb1.cell (p := ⟨w.heap.size, 2, none⟩) (by simp)).trans (by simp)
  have c3 : w1.cell? ⟨w.heap.size, 3, none⟩ = some (.string t) := (hb1.cell (p := ⟨w.heap.size, 3, none⟩) (by simp)).trans (by simp)
  have hlt : w.heap.size < w1.heap.size := cell_lt c1
  clear hb1
  go_wp2_with fail
  refine (pair_bad2 s t _ hl (unhide Hhc) (unhide Hhd)).mono ?_
  rintro e w2 ⟨t', x, m, rfl, hy, hb2⟩
  go_wp2
  go_ret2
  exact ⟨_, _, _, rfl, hy, (((unhide HB1).alloc (unhide HB1).size _).trans (hb2.mono (by simp; omega)))⟩
end Go.Proofs.YtpfpollejhdbgaaDoor
