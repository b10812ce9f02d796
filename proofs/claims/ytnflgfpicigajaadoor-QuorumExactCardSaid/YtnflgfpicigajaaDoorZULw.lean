/- Proved here: an ask of the statements of layer 16 in memory; heavy, set and wakes of dovecotelaw16. Helper contracts. -/
import Derived.Test.YtnflgfpicigajaaDoorZUPr
import Derived.Test.YtnflgfpicigajaaDoorZNNm
namespace Go.Proofs.YtnflgfpicigajaaDoor.Qu
open Go.RowKit Nt
set_option maxRecDepth 100000

/-- a slice's words -/
structure Sl where
  a : Option Addr
  n : Nat
  c : Nat
abbrev Sl.v (s : Sl) : Value := .slice s.a s.n s.c
def LsS (w : World) (s : Sl) (l : List Int) : Prop := Ls w s.a s.n s.c l
/-- an ask: four lists and a text -/
structure Ak where
  m : Sl
  o : Sl
  v : Sl
  t : Sl
  s : ByteArray
  lm : List Int
  lo : List Int
  lv : List Int
  lt : List Int
def AkC (w : World) (g o : Nat) (a : Ak) : Prop := w.cell? ⟨g, o, none⟩ = some (.slice a.m.a a.m.n a.m.c) ∧ w.cell? ⟨g, o + 1, none⟩ = some (.slice a.o.a a.o.n a.o.c) ∧ w.cell? ⟨g, o + 2, none⟩ = some (.slice a.v.a a.v.n a.v.c) ∧ w.cell? ⟨g, o + 3, none⟩ = some (.slice a.t.a a.t.n a.t.c) ∧ w.cell? ⟨g, o + 4, none⟩ = some (.string a.s)
def AkL (w : World) (a : Ak) : Prop := (LsS w a.m a.lm ∧ LsS w a.o a.lo ∧ LsS w a.v a.lv ∧ LsS w a.t a.lt) ∧ a.s.size ≤ 140737488355328
def AkIs (w : World) (g o : Nat) (a : Ak) : Prop := AkC w g o a ∧ AkL w a
theorem AkC.below {w w' : World} {g o : Nat} {a : Ak} (h : AkC w g o a) (hb : Below w.heap.size w w') : AkC w' g o a := by
  obtain ⟨h0, h1, h2, h3, h4⟩ := h
  exact ⟨(hb.cell (p := ⟨g, o, none⟩) (cell_lt h0)).trans h0, (hb.cell (p := ⟨g, o + 1, none⟩) (cell_lt h1)).trans h1, (hb.cell (p := ⟨g, o + 2, none⟩) (cell_lt h2)).trans h2, (hb.cell (p := ⟨g, o + 3, none⟩) (cell_lt h3)).trans h3, (hb.cell (p := ⟨g, o + 4, none⟩) (cell_lt h4)).trans h4⟩
theorem AkL.below {w w' : World} {a : Ak} (h : AkL w a) (hb : Below w.heap.size w w') : AkL w' a := ⟨⟨Ls.below h.1.1 hb, Ls.below h.1.2.1 hb, Ls.below h.1.2.2.1 hb, Ls.below h.1.2.2.2 hb⟩, h.2⟩
theorem AkIs.below {w w' : World} {g o : Nat} {a : Ak} (h : AkIs w g o a) (hb : Below w.heap.size w w') : AkIs w' g o a := ⟨h.1.below hb, h.2.below hb⟩
/-- len asks at b, off -/
def AksIn (w : World) (b off : Nat) (f : Nat → Ak) (len : Nat) : Prop := ∀ k, k < len → AkIs w b (off + k * 5) (f k)
theorem AksIn.below {w w' : World} {b off : Nat} {f : Nat → Ak} {len : Nat} (h : AksIn w b off f len) (hb : Below w.heap.size w w') : AksIn w' b off f len := fun k hk => (h k hk).below hb
/-- what passes heavy -/
def HvR (a b c d e : Nat) (z : Bool) : Prop := z = false → a ≤ 500 ∧ b ≤ 500 ∧ c ≤ 500 ∧ d ≤ 500 ∧ e ≤ 500
set_option maxHeartbeats 4000000 in
theorem heavy_any (a1 a2 a3 a4 : Option Addr) (n1 c1 n2 c2 n3 c3 n4 c4 : Nat) (s : ByteArray) (w : World) (h1 : n1 ≤ 17592186043904) (h2 : n2 ≤ 17592186043904) (h3 : n3 ≤ 17592186043904) (h4 : n4 ≤ 17592186043904) (hs : s.size ≤ 140737488355328) :
    Calls Tryd.prog 8 #[.agg #[.slice a1 n1 c1, .slice a2 n2 c2, .slice a3 n3 c3, .slice a4 n4 c4, .string s]] w fun e w' => (∃ d, e = .returned (.bool d) ∧ HvR n1 n2 n3 n4 s.size d) ∧ Below w.heap.size w w' := by
  have HB0 : Hid (Below w.heap.size w (w.alloc (.cells #[.slice a1 n1 c1, .slice a2 n2 c2, .slice a3 n3 c3, .slice a4 n4 c4, .string s] 25))) := (Below.refl _ _).alloc (Nat.le_refl _) _
  obtain ⟨n5, hn5⟩ : ∃ n5, n5 = s.size := ⟨_, rfl⟩
  have hsz : ((s.size : Nat) : Int) = (n5 : Int) := by rw [hn5]
  have e1 : IntKind.i64.wrap ((n1 : Int) + (n2 : Int)) = (n1 : Int) + (n2 : Int) := by rw [IntKind.wrap_i64]; omega
  have e2 : IntKind.i64.wrap ((n1 : Int) + (n2 : Int) + (n3 : Int)) = (n1 : Int) + (n2 : Int) + (n3 : Int) := by rw [IntKind.wrap_i64]; omega
  have e3 : IntKind.i64.wrap ((n1 : Int) + (n2 : Int) + (n3 : Int) + (n4 : Int)) = (n1 : Int) + (n2 : Int) + (n3 : Int) + (n4 : Int) := by rw [IntKind.wrap_i64]; omega
  have e4 : IntKind.i64.wrap ((n1 : Int) + (n2 : Int) + (n3 : Int) + (n4 : Int) + (n5 : Int)) = (n1 : Int) + (n2 : Int) + (n3 : Int) + (n4 : Int) + (n5 : Int) := by rw [IntKind.wrap_i64]; omega
  obtain ⟨d, hd⟩ : ∃ d, d = decide (500 < (n1 : Int) + (n2 : Int) + (n3 : Int) + (n4 : Int) + (n5 : Int)) := ⟨_, rfl⟩
  have HD : Hid (HvR n1 n2 n3 n4 n5 d) := fun h => by
    rw [h] at hd
    have := of_decide_eq_false hd.symm
    omega
  have HDD := hide hd
  rw [← hn5]
  clear hn5 hs hd
  go_enter Tryd.func8, Tryd.ntmps8
  go_wp2
  go_ret
  exact ⟨⟨d, by rw [unhide HDD]; rfl, unhide HD⟩, unhide HB0⟩
/-- the numbers whose bits are there, of the first k -/
def setK (a k : Nat) : List Int := ((List.range k).filter (fun i => a.testBit i)).map (fun (i : Nat) => (i : Int) + 1)
def setL (a : Nat) : List Int := setK a 7
theorem setK_zero (a : Nat) : setK a 0 = [] := rfl
theorem setK_yes {a k : Nat} (h : a.testBit k = true) : setK a (k + 1) = setK a k ++ [(k : Int) + 1] := by
  unfold setK
  rw [List.range_succ, List.filter_append, List.map_append, List.filter_cons_of_pos (by simpa using h)]
  rfl
theorem setK_no {a k : Nat} (h : a.testBit k = false) : setK a (k + 1) = setK a k := by
  unfold setK
  rw [List.range_succ, List.filter_append, List.map_append, List.filter_cons_of_neg (by simp [h])]
  simp
theorem setK_len (a k : Nat) : (setK a k).length ≤ k := by
  unfold setK
  rw [List.length_map]
  exact Nat.le_trans (List.length_filter_le _ _) (by simp)
theorem bit_all : ∀ a : Fin 128, ∀ k : Fin 7, (bits .and .i64 ((a.val : Int) / ((2 ^ k.val : Nat) : Int)) 1 == 1) = a.val.testBit k.val := by decide +kernel
theorem bit_at {a k : Nat} (ha : a < 128) (hk : k < 7) : (bits .and .i64 ((a : Int) / (2 : Int) ^ k) 1 == 1) = a.testBit k := by
  have h := bit_all ⟨a, ha⟩ ⟨k, hk⟩
  rw [← h]
  simp
theorem set_mem_all : ∀ a : Fin 128, Mem (setL a.val) := by decide +kernel
theorem set_mem {a : Nat} (ha : a < 128) : Mem (setL a) := set_mem_all ⟨a, ha⟩
theorem and_all : ∀ a b : Fin 128, (bits .and .i64 (a.val : Int) (b.val : Int) == 0) = true → ∀ k : Fin 7, (a.val.testBit k.val && b.val.testBit k.val) = false := by decide +kernel
theorem mem_set {a : Nat} {x : Int} : x ∈ setL a ↔ ∃ k, k < 7 ∧ a.testBit k = true ∧ x = (k : Int) + 1 := by
  unfold setL setK
  rw [List.mem_map]
  constructor
  · rintro ⟨i, hi, rfl⟩
    rw [List.mem_filter, List.mem_range] at hi
    exact ⟨i, hi.1, hi.2, rfl⟩
  · rintro ⟨k, h1, h2, rfl⟩
    exact ⟨k, List.mem_filter.2 ⟨List.mem_range.2 h1, h2⟩, rfl⟩
theorem set_apart {a b : Nat} (ha : a < 128) (hb : b < 128) (h : (bits .and .i64 (a : Int) (b : Int) == 0) = true) : ∀ x, x ∈ setL a → x ∈ setL b → False := by
  intro x h1 h2
  obtain ⟨i, hi, hia, rfl⟩ := mem_set.1 h1
  obtain ⟨j, hj, hjb, e⟩ := mem_set.1 h2
  obtain rfl : i = j := by omega
  have := and_all ⟨a, ha⟩ ⟨b, hb⟩ h ⟨i, hi⟩
  simp [hia, hjb] at this
set_option maxHeartbeats 4000000 in
theorem set_any (a : Nat) (w : World) (ha : a < 128) :
    Calls Tryd.prog 24 #[.int .i64 (a : Int)] w fun e w' => (∃ ao n cap, e = .returned (.slice ao n cap) ∧ Hid (OwnI w' w.heap.size ao n cap (setL a))) ∧ Hid (Below w.heap.size w w') := by
  obtain ⟨i0, hi, hz0, hz1, hz2⟩ := info_parts infoI
  go_enter Tryd.func24, Tryd.ntmps24
  go_wp2
  go_loopw [3, 4] (fun v i wr => ∃ k : Nat, k ≤ 7 ∧ i = .int .i64 k ∧ Hid (wr.ownsRow w.heap.size 3 1 v (setK a k).length ((setK a k).map (Value.int .i64))) ∧ Below w.heap.size w wr) (fun _ i _ => 7 - (intOf i).toNat)
  case atStart => exact ⟨0, Nat.zero_le _, rfl, World.ownsRow_nil _ _ _ _, Below.refl _ _⟩
  case round =>
    obtain ⟨k, hk, rfl, HOWN, hbel⟩ := hrel
    have HBEL := hide hbel
    have hsz := hbel.size
    have hln := setK_len a k
    clear hbel
    by_cases hlt : k < 7
    · have hb := bit_at ha hlt
      have HY := hide (fun h => setK_yes (a := a) (k := k) h)
      have HN := hide (fun h => setK_no (a := a) (k := k) h)
      by_cases ht : a.testBit k = true
      · rw [ht] at hb
        have HS := hide (unhide HY ht)
        have hw1 : IntKind.i64.wrap ((k : Int) + 1) = (k : Int) + 1 := by rw [IntKind.wrap_i64]; omega
        have hw2 : wrap64 ((k : Int) + 1) = (k : Int) + 1 := by unfold wrap64; omega
        clear HY HN ht
        generalize (setK a k) = l at HOWN hln HS
        have HPS : Hid ((setK a (k + 1)).length = l.length + 1 ∧ (setK a (k + 1)).map (Value.int .i64) = l.map (Value.int .i64) ++ [.int .i64 ((k : Int) + 1)]) := by
          refine ⟨?_, ?_⟩
          · rw [unhide HS, List.length_append]; rfl
          · rw [unhide HS, List.map_append]; rfl
        generalize hln2 : l.length = nn at HOWN hln HPS
        clear hln2
        go_wp2_with (first
          | (at_builtin; refine wpList_append_own _ rfl _ _ 23 rfl w.heap.size 3 i0 _ 1 8 Tryd.underlying23 hi hz0 hz1 hz2 rfl (by decide) _ _ _ rfl ((unhide HOWN).alloc _) ⟨wr.heap.size, 0, none⟩ 1 1 [.int .i64 ((k : Int) + 1)] rfl rfl (one_cell _ _ _) (fun u hu => by simp at hu; subst hu; rfl) (by unfold maxLen; omega) (by omega) (by simp; omega) ?_)
          | go_in)
        intro v' w1 hown' hgrow _
        have HB1 : Hid (Below w.heap.size w w1) := ((unhide HBEL).alloc hsz _).grown hgrow (by simp; omega) (fun k hk => ((unhide HOWN).lt k hk).1)
        have HO1 : Hid (w1.ownsRow w.heap.size 3 1 v' (setK a (k + 1)).length ((setK a (k + 1)).map (Value.int .i64))) := by show World.ownsRow _ _ _ _ _ _ _; rw [(unhide HPS).1, (unhide HPS).2]; exact hown'
        clear hgrow hown'
        go_wp2
        go_roundw
        case rel => exact ⟨k + 1, by omega, by go_num, HO1, unhide HB1⟩
        case measure => simp [intOf]; omega
      · have hf : a.testBit k = false := by simpa using ht
        rw [hf] at hb
        have HO1 : Hid (wr.ownsRow w.heap.size 3 1 u3 (setK a (k + 1)).length ((setK a (k + 1)).map (Value.int .i64))) := by show World.ownsRow _ _ _ _ _ _ _; rw [unhide HN hf]; exact unhide HOWN
        clear HY HN ht hf
        go_wp2
        go_roundw
        case rel => exact ⟨k + 1, by omega, by go_num, HO1, unhide HBEL⟩
        case measure => simp [intOf]; omega
    · obtain rfl : k = 7 := by omega
      obtain ⟨ao, cap, hv, ho⟩ := OwnI.of (unhide HOWN) (by omega)
      have HO : Hid (OwnI wr w.heap.size ao (setK a 7).length cap (setL a)) := ho
      subst hv
      generalize (setK a 7).length = n7 at HO HOWN hln ⊢
      clear ho HOWN
      go_wp2
      go_ret
      exact ⟨⟨_, _, _, rfl, unhide HO⟩, unhide HBEL⟩
theorem Ls.nms {w : World} {ao : Option Addr} {n cap : Nat} {l : List Int} (h : Ls w ao n cap l) : Nms w (.slice ao n cap) l := by
  obtain ⟨h1, h2, h3, h4, h5⟩ := h
  refine ⟨ao, cap, by rw [h1], ⟨by rw [h1]; exact h2, h3.1⟩, ?_⟩
  rcases h5 with h5 | h5
  · exact .inl (List.length_eq_zero_iff.1 (h1.trans h5))
  · exact .inr h5
theorem ls3 (w : World) (t : TypeId) (x y z : Int) : Ls (w.alloc (.cells #[.int .i64 x, .int .i64 y, .int .i64 z] t)) (some ⟨w.heap.size, 0, none⟩) 3 3 [x, y, z] := by
  refine ⟨rfl, Nat.le_refl _, ⟨by decide, fun e => by cases e⟩, by decide, .inr ⟨_, _, rfl, fun j hj => ?_⟩⟩
  rcases j with _ | _ | _ | j
  · simp
  · simp
  · simp
  · simp at hj; omega
theorem ls2 (w : World) (t : TypeId) (x y : Int) : Ls (w.alloc (.cells #[.int .i64 x, .int .i64 y] t)) (some ⟨w.heap.size, 0, none⟩) 2 2 [x, y] := by
  refine ⟨rfl, Nat.le_refl _, ⟨by decide, fun e => by cases e⟩, by decide, .inr ⟨_, _, rfl, fun j hj => ?_⟩⟩
  rcases j with _ | _ | j
  · simp
  · simp
  · simp at hj; omega
theorem mem123 : Mem [1, 2, 3] := by decide
set_option maxHeartbeats 4000000 in
theorem wakes_any (w : World) (hg : Laid w) : Calls Tryd.prog 23 #[] w fun e w' => e = .returned (.bool true) ∧ Below w.heap.size w w' := by
  have HG := hide hg
  clear hg
  have HB1 : Hid (Below w.heap.size w (w.alloc (.cells #[.int .i64 1, .int .i64 2, .int .i64 3] 3))) := (Below.refl _ _).alloc (Nat.le_refl _) _
  have HB2 : Hid (Below w.heap.size w ((w.alloc (.cells #[.int .i64 1, .int .i64 2, .int .i64 3] 3)).alloc (.cells #[.int .i64 3, .int .i64 1] 3))) := (unhide HB1).alloc (by simp) _
  have H1 := hide ((ls3 w 3 1 2 3).below ((Below.refl _ _).alloc (Nat.le_refl _) (.cells #[.int .i64 3, .int .i64 1] 3)))
  have H2 : Hid (Ls ((w.alloc (.cells #[.int .i64 1, .int .i64 2, .int .i64 3] 3)).alloc (.cells #[.int .i64 3, .int .i64 1] 3)) (some ⟨w.heap.size + 1, 0, none⟩) 2 2 [3, 1]) := by
    have h := ls2 (w.alloc (.cells #[.int .i64 1, .int .i64 2, .int .i64 3] 3)) 3 3 1
    rw [World.size_alloc] at h
    exact h
  have HE := hide (eno_any _ _ _ _ _ _ _ _ _ (unhide H1) (unhide H2))
  go_enter Tryd.func23, Tryd.ntmps23
  go_wp2_with fail
  refine (unhide HE).mono ?_
  rintro e w1 hr
  rcases hr with ⟨_, rfl, hw⟩ | ⟨hM, _⟩
  · obtain rfl := hw.symm
    have hen : enoB [1, 2, 3] [3, 1] = true := by decide
    rw [hen]
    have HG2 := hide ((unhide HG).below (unhide HB2) (unhide HG).pos)
    clear hw HE H1 H2
    go_wp2_with fail
    refine (num_err _ 0 _ (unhide HG2) (.inl ⟨rfl, rfl⟩)).mono ?_
    rintro e w4 ⟨rfl, hb⟩
    have HB4 : Hid (Below w.heap.size w w4) := bnx (unhide HB2) hb
    clear hb
    go_wp2
    go_ret
    exact ⟨rfl, unhide HB4⟩
  · exact absurd mem123 hM
end Go.Proofs.YtnflgfpicigajaaDoor.Qu
