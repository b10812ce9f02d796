/- Proved here: helpers, one text behind the other. -/
import Derived.Test.YtmmhdhpocjnlbaaGreatDoorZEFa
/- Proved here: entries.Last, Term and Newer: what they tell of any log. Helper contracts. -/
namespace Go.Proofs.YtmmhdhpocjnlbaaGreatDoor.Et
open Go.RowKit Nt
set_option maxRecDepth 100000

/-- the end of a log, with the error's number ahead -/
def lastR (L : Lo) : Int × Int × Int := if May L then (0, lastI L, lastT L) else (1, 0, 0)
def termR (L : Lo) (i : Int) : Int × Int := if May L then (match termAt L i with | none => (8, 0) | some t => (0, t)) else (1, 0)
def newR (L : Lo) (i t : Int) : Int × Bool := if May L then (0, newB L i t) else (1, false)
theorem lastR_ok {L : Lo} (h : May L) : lastR L = (0, lastI L, lastT L) := if_pos h
theorem lastR_bad {L : Lo} (h : ¬ May L) : lastR L = (1, 0, 0) := if_neg h
theorem termR_bad {L : Lo} (h : ¬ May L) (i : Int) : termR L i = (1, 0) := if_neg h
theorem termR_ok {L : Lo} (h : May L) (i : Int) : termR L i = (match termAt L i with | none => (8, 0) | some t => (0, t)) := if_pos h
theorem newR_ok {L : Lo} (h : May L) (i t : Int) : newR L i t = (0, newB L i t) := if_pos h
theorem newR_bad {L : Lo} (h : ¬ May L) (i t : Int) : newR L i t = (1, false) := if_neg h
theorem newB_eq {L : Lo} {i t : Int} {d : Bool} (h : lastT L < t ∧ d = true ∨ ¬ lastT L < t ∧ t = lastT L ∧ d = decide (lastI L ≤ i) ∨ ¬ lastT L < t ∧ ¬ t = lastT L ∧ d = false) : newB L i t = d := by
  unfold newB
  rcases h with ⟨h1, rfl⟩ | ⟨h1, h2, rfl⟩ | ⟨h1, h2, rfl⟩
  · simp [h1]
  · simp [h2]
  · simp [h1, h2]
end Go.Proofs.YtmmhdhpocjnlbaaGreatDoor.Et
/- Proved here: entries.spliced and told: a log with entries in the place of those above an index. Helper contracts. -/
namespace Go.Proofs.YtmmhdhpocjnlbaaGreatDoor.Et
open Go.RowKit Nt
set_option maxRecDepth 100000

/-- a log with entries in the place of those behind the first k -/
def splR (L : Lo) (k : Nat) (es : List En) : Int × Lo := if 512 < k + es.length then (9, lo0) else if May ⟨L.b, L.t, L.es.take k ++ es⟩ then (0, ⟨L.b, L.t, L.es.take k ++ es⟩) else (1, lo0)
/-- a bare number, or nothing -/
def RawE (E : Value) (n : Int) : Prop := (n = 0 ∧ E = .nilIface) ∨ (n ≠ 0 ∧ E = .iface 61 (.int .i64 n))
/-- what a call tells of a log: the log in memory of its own, a bare number -/
def TelR (B : Nat) (r : Int × Lo) (e : Ending) (w' : World) : Prop := ∃ E ao n c, e = .returned (.tuple #[.agg #[.int .i64 r.2.b, .int .i64 r.2.t, .slice ao n c], E]) ∧ Hid (OwnL w' B r.2 ao n c) ∧ Hid (RawE E r.1)
/-- .. an error with its number -/
def TelX (B : Nat) (r : Int × Lo) (e : Ending) (w' : World) : Prop := ∃ E ao n c, e = .returned (.tuple #[.agg #[.int .i64 r.2.b, .int .i64 r.2.t, .slice ao n c], E]) ∧ Hid (OwnL w' B r.2 ao n c) ∧ Hid (ErrB w' B E r.1)
theorem rows2 {w : World} {g : Nat} {a1 a2 : Option Addr} {n1 n2 c1 c2 : Nat} {l1 l2 : List En} (h0 : w.cell? ⟨g, 0, none⟩ = some (.slice a1 n1 c1)) (h1 : w.cell? ⟨g, 1, none⟩ = some (.slice a2 n2 c2)) (e1 : Es w a1 n1 c1 l1) (e2 : Es w a2 n2 c2 l2) : RowsE w g 2 (fun i => if i = 0 then ⟨a1, n1, c1⟩ else ⟨a2, n2, c2⟩) [l1, l2] := ⟨rfl, fun i hi => by
  have : i = 0 ∨ i = 1 := by omega
  rcases this with rfl | rfl
  · exact ⟨h0, e1⟩
  · exact ⟨h1, e2⟩⟩
set_option maxHeartbeats 8000000 in
theorem spliced_any (b t : Int) (ao : Option Addr) (n cap k : Nat) (l : List En) (ao2 : Option Addr) (m cap2 : Nat) (es : List En) (w : World) (h : Es w ao n cap l) (h2 : Es w ao2 m cap2 es) (hk : k ≤ n) :
    Calls Tryz.prog 78 #[.agg #[.int .i64 b, .int .i64 t, .slice ao n cap], .int .i64 (b + (k : Int)), .slice ao2 m cap2] w fun e w' => TelR w.heap.size (splR ⟨b, t, l⟩ k es) e w' ∧ Hid (Below w.heap.size w w') := by
  have HB0 : Hid (Below w.heap.size w ((w.alloc (.cells #[.int .i64 b, .int .i64 t, .slice ao n cap] 85)).alloc (.cells #[.int .i64 0, .int .i64 0, .slice none 0 0] 85))) := ((Below.refl _ _).alloc (Nat.le_refl _) _).alloc (by simp) _
  have HX0 : Hid (Bx ((w.alloc (.cells #[.int .i64 b, .int .i64 t, .slice ao n cap] 85)).alloc (.cells #[.int .i64 0, .int .i64 0, .slice none 0 0] 85)) w.heap.size [.int .i64 b, .int .i64 t, .slice ao n cap] 85) := (Bx.new w _ _ _ rfl).below ((Below.refl _ _).alloc (Nat.le_refl _) _)
  have HY0 : Hid (Bx ((w.alloc (.cells #[.int .i64 b, .int .i64 t, .slice ao n cap] 85)).alloc (.cells #[.int .i64 0, .int .i64 0, .slice none 0 0] 85)) (w.heap.size + 1) [.int .i64 0, .int .i64 0, .slice none 0 0] 85) := Bx.new _ _ _ _ (by simp)
  have hs0 : ((w.alloc (.cells #[.int .i64 b, .int .i64 t, .slice ao n cap] 85)).alloc (.cells #[.int .i64 0, .int .i64 0, .slice none 0 0] 85)).heap.size = w.heap.size + 2 := by simp
  have HE := hide h
  have HE2 := hide h2
  have hnc := h.2.1
  have hnx := h.2.2.2.1
  have hmx := h2.2.2.2.1
  have hmc := h2.2.1
  clear h h2
  by_cases hf : 512 < k + m
  · have HR : Hid (splR ⟨b, t, l⟩ k es = (9, lo0)) := if_pos (by rw [(unhide HE2).1]; exact hf)
    rw [unhide HR]
    go_enter Tryz.func78, Tryz.ntmps78
    go_wp2_with fail
    refine (upTo_any b t ao n cap k _ hk hnc hnx).mono ?_
    rintro e w2 ⟨rfl, hb⟩
    have HB : Hid (Below w.heap.size w w2) := bnx (unhide HB0) hb
    have HY := hide ((unhide HY0).below hb)
    obtain ⟨⟨c0, c1, c2⟩, f0, f1, f2⟩ := bx_slot (unhide HY)
    clear hb
    go_wp2
    refine bodyPost_ret (res_le (B := w.heap.size + 1) rfl rfl (put3_bx (unhide HY) _ _ _)) rfl ?_
    exact ⟨⟨_, _, _, _, rfl, OwnL.nil _ _, .inr ⟨by decide, rfl⟩⟩, put3_below (unhide HB) (by omega)⟩
  · have HL : Hid ((l.take k ++ es).length = k + m) := by
      show _ = _
      rw [List.length_append, List.length_take, (unhide HE).1, (unhide HE2).1]; omega
    have HR : Hid (splR ⟨b, t, l⟩ k es = if May ⟨b, t, l.take k ++ es⟩ then (0, ⟨b, t, l.take k ++ es⟩) else (1, lo0)) := if_neg (by rw [(unhide HE2).1]; exact hf)
    rw [unhide HR]
    by_cases hm : May ⟨b, t, l.take k ++ es⟩
    · rw [if_pos hm]
      have HM := hide (decide_eq_true hm)
      clear hm HR
      go_enter Tryz.func78, Tryz.ntmps78
      go_wp2_with fail
      refine (upTo_any b t ao n cap k _ hk hnc hnx).mono ?_
      rintro e w2 ⟨rfl, hb⟩
      have HB : Hid (Below w.heap.size w w2) := bnx (unhide HB0) hb
      have HX := hide ((unhide HX0).below hb)
      have HY := hide ((unhide HY0).below hb)
      have hs2 : w.heap.size + 2 ≤ w2.heap.size := by rw [← hs0]; exact hb.size
      obtain ⟨⟨c0, c1, c2⟩, f0, f1, f2⟩ := bx_slot (unhide HX)
      clear hb HX0 HY0 hs0 HB0
      go_wp2_with fail
      have hal : Below w2.heap.size w2 (w2.alloc (.cells #[.slice ao k cap, .slice ao2 m cap2] 24)) := (Below.refl _ _).alloc (Nat.le_refl _) _
      have HB3 : Hid (Below w.heap.size w (w2.alloc (.cells #[.slice ao k cap, .slice ao2 m cap2] 24))) := bnx (unhide HB) hal
      have HRW := hide (rows2 (w := w2.alloc (.cells #[.slice ao k cap, .slice ao2 m cap2] 24)) (g := w2.heap.size) (by simp) (by simp) (((unhide HE).below (unhide HB3)).lo k hk) ((unhide HE2).below (unhide HB3)))
      have HY3 := hide ((unhide HY).below hal)
      refine (made_any b t w2.heap.size 2 2 _ _ (l.take k ++ es) (k + m) _ (by omega) (by simp) (unhide HL) (by omega) (unhide HRW)).mono ?_
      rintro e w4 ⟨ao4, c4, rfl, HO4, HB4⟩
      have HB5 : Hid (Below w.heap.size w w4) := bnx (unhide HB3) (unhide HB4)
      have HY5 := hide ((unhide HY3).below (unhide HB4))
      have hs4 : w.heap.size + 3 ≤ w4.heap.size := by have := (unhide HB4).size; simp at this; omega
      clear hal HRW HB4 c0 c1 c2 f0 f1 f2
      go_wp2_with fail
      have HOL : Hid (OwnL w4 (w.heap.size + 2) ⟨b, t, l.take k ++ es⟩ ao4 (k + m) c4) := ⟨owns_mono (unhide HO4) (by simp; omega), unhide HL, by omega⟩
      have hal4 : Below w4.heap.size w4 (w4.alloc (.cells #[.int .i64 b, .int .i64 t, .slice ao4 (k + m) c4] 85)) := (Below.refl _ _).alloc (Nat.le_refl _) _
      refine (isLog_any b t ao4 (k + m) c4 (l.take k ++ es) _ ((unhide HOL).below hal4).es).mono ?_
      rw [unhide HM]
      rintro e w6 ⟨rfl, hb6⟩
      have hb46 : Below w4.heap.size w4 w6 := bnx hal4 hb6
      have HB6 : Hid (Below w.heap.size w w6) := bnx (unhide HB5) hb46
      have HY6 := hide ((unhide HY5).below hb46)
      have HO6 := hide ((unhide HOL).below hb46)
      have d0 : w6.cell? ⟨w4.heap.size, 0, none⟩ = some (.int .i64 b) := (hb6.cell (by simp)).trans (by simp)
      have d1 : w6.cell? ⟨w4.heap.size, 1, none⟩ = some (.int .i64 t) := (hb6.cell (by simp)).trans (by simp)
      have d2 : w6.cell? ⟨w4.heap.size, 2, none⟩ = some (.slice ao4 (k + m) c4) := (hb6.cell (by simp)).trans (by simp)
      obtain ⟨⟨c0, c1, c2⟩, f0, f1, f2⟩ := bx_slot (unhide HY6)
      clear hb6 hb46 hal4 HO4
      go_wp2
      refine bodyPost_ret (res_le (B := w.heap.size + 1) rfl rfl (put3_bx (unhide HY6) _ _ _)) rfl ?_
      exact ⟨⟨_, _, _, _, rfl, ((unhide HO6).put3 (by omega)).mono (by omega), .inl ⟨rfl, rfl⟩⟩, put3_below (unhide HB6) (by omega)⟩
    · rw [if_neg hm]
      have HM := hide (decide_eq_false hm)
      clear hm HR
      go_enter Tryz.func78, Tryz.ntmps78
      go_wp2_with fail
      refine (upTo_any b t ao n cap k _ hk hnc hnx).mono ?_
      rintro e w2 ⟨rfl, hb⟩
      have HB : Hid (Below w.heap.size w w2) := bnx (unhide HB0) hb
      have HX := hide ((unhide HX0).below hb)
      have HY := hide ((unhide HY0).below hb)
      have hs2 : w.heap.size + 2 ≤ w2.heap.size := by rw [← hs0]; exact hb.size
      obtain ⟨⟨c0, c1, c2⟩, f0, f1, f2⟩ := bx_slot (unhide HX)
      clear hb HX0 HY0 hs0 HB0
      go_wp2_with fail
      have hal : Below w2.heap.size w2 (w2.alloc (.cells #[.slice ao k cap, .slice ao2 m cap2] 24)) := (Below.refl _ _).alloc (Nat.le_refl _) _
      have HB3 : Hid (Below w.heap.size w (w2.alloc (.cells #[.slice ao k cap, .slice ao2 m cap2] 24))) := bnx (unhide HB) hal
      have HRW := hide (rows2 (w := w2.alloc (.cells #[.slice ao k cap, .slice ao2 m cap2] 24)) (g := w2.heap.size) (by simp) (by simp) (((unhide HE).below (unhide HB3)).lo k hk) ((unhide HE2).below (unhide HB3)))
      have HY3 := hide ((unhide HY).below hal)
      refine (made_any b t w2.heap.size 2 2 _ _ (l.take k ++ es) (k + m) _ (by omega) (by simp) (unhide HL) (by omega) (unhide HRW)).mono ?_
      rintro e w4 ⟨ao4, c4, rfl, HO4, HB4⟩
      have HB5 : Hid (Below w.heap.size w w4) := bnx (unhide HB3) (unhide HB4)
      have HY5 := hide ((unhide HY3).below (unhide HB4))
      have hs4 : w.heap.size + 3 ≤ w4.heap.size := by have := (unhide HB4).size; simp at this; omega
      clear hal HRW HB4 c0 c1 c2 f0 f1 f2
      go_wp2_with fail
      have HOL : Hid (OwnL w4 (w.heap.size + 2) ⟨b, t, l.take k ++ es⟩ ao4 (k + m) c4) := ⟨owns_mono (unhide HO4) (by simp; omega), unhide HL, by omega⟩
      have hal4 : Below w4.heap.size w4 (w4.alloc (.cells #[.int .i64 b, .int .i64 t, .slice ao4 (k + m) c4] 85)) := (Below.refl _ _).alloc (Nat.le_refl _) _
      refine (isLog_any b t ao4 (k + m) c4 (l.take k ++ es) _ ((unhide HOL).below hal4).es).mono ?_
      rw [unhide HM]
      rintro e w6 ⟨rfl, hb6⟩
      have hb46 : Below w4.heap.size w4 w6 := bnx hal4 hb6
      have HB6 : Hid (Below w.heap.size w w6) := bnx (unhide HB5) hb46
      have HY6 := hide ((unhide HY5).below hb46)
      have HO6 := hide ((unhide HOL).below hb46)
      have d0 : w6.cell? ⟨w4.heap.size, 0, none⟩ = some (.int .i64 b) := (hb6.cell (by simp)).trans (by simp)
      have d1 : w6.cell? ⟨w4.heap.size, 1, none⟩ = some (.int .i64 t) := (hb6.cell (by simp)).trans (by simp)
      have d2 : w6.cell? ⟨w4.heap.size, 2, none⟩ = some (.slice ao4 (k + m) c4) := (hb6.cell (by simp)).trans (by simp)
      obtain ⟨⟨c0, c1, c2⟩, f0, f1, f2⟩ := bx_slot (unhide HY6)
      clear hb6 hb46 hal4 HO4
      go_wp2
      refine bodyPost_ret (res_le (B := w.heap.size + 1) rfl rfl (put3_bx (unhide HY6) _ _ _)) rfl ?_
      exact ⟨⟨_, _, _, _, rfl, OwnL.nil _ _, .inr ⟨by decide, rfl⟩⟩, put3_below (unhide HB6) (by omega)⟩
set_option maxHeartbeats 4000000 in
theorem told_any (B : Nat) (L : Lo) (ao : Option Addr) (n c : Nat) (E : Value) (x : Int) (w : World) (hB : B ≤ w.heap.size) (h : OwnL w B L ao n c) (he : RawE E x) (h0 : x ≠ 0 → L = lo0) :
    Calls Tryz.prog 66 #[.agg #[.int .i64 L.b, .int .i64 L.t, .slice ao n c], E] w fun e w' => TelX B (x, L) e w' ∧ Hid (Below w.heap.size w w') := by
  have HO := hide h
  rcases he with ⟨rfl, rfl⟩ | ⟨hx, rfl⟩
  · clear h h0
    have HB1 : Hid (Below w.heap.size w ((w.alloc (.cells #[.int .i64 L.b, .int .i64 L.t, .slice ao n c] 85)).alloc (.cells #[.int .i64 L.b, .int .i64 L.t, .slice ao n c] 85))) := ((Below.refl _ _).alloc (Nat.le_refl _) _).alloc (by simp) _
    go_enter Tryz.func66, Tryz.ntmps66
    go_wp2
    refine bodyPost_ret (res_le (B := w.heap.size + 1) rfl rfl (Bx.new (w.alloc (.cells #[.int .i64 L.b, .int .i64 L.t, .slice ao n c] 85)) [.int .i64 L.b, .int .i64 L.t, .slice ao n c] 85 _ (by simp))) rfl ?_
    exact ⟨⟨_, _, _, _, rfl, (unhide HO).below (unhide HB1), .inl ⟨rfl, rfl⟩⟩, HB1⟩
  · have hL := h0 hx
    subst hL
    have HB0 : Hid (Below w.heap.size w ((w.alloc (.cells #[.int .i64 0, .int .i64 0, .slice ao n c] 85)).alloc (.cells #[.int .i64 0, .int .i64 0, .slice none 0 0] 85))) := ((Below.refl _ _).alloc (Nat.le_refl _) _).alloc (by simp) _
    have HY0 : Hid (Bx ((w.alloc (.cells #[.int .i64 0, .int .i64 0, .slice ao n c] 85)).alloc (.cells #[.int .i64 0, .int .i64 0, .slice none 0 0] 85)) (w.heap.size + 1) [.int .i64 0, .int .i64 0, .slice none 0 0] 85) := Bx.new _ _ _ _ (by simp)
    clear h h0 hx
    show Calls _ _ #[.agg #[.int .i64 0, .int .i64 0, .slice ao n c], .iface 61 (.int .i64 x)] _ _
    go_enter Tryz.func66, Tryz.ntmps66
    go_wp2_with fail
    refine (fault_n x _).mono ?_
    rintro e w2 ⟨y, rfl, HER, HB2⟩
    have HY := hide ((unhide HY0).below (unhide HB2))
    obtain ⟨⟨c0, c1, c2⟩, f0, f1, f2⟩ := bx_slot (unhide HY)
    have HB : Hid (Below w.heap.size w w2) := bnx (unhide HB0) (unhide HB2)
    go_wp2
    refine bodyPost_ret (res_le (B := w.heap.size + 1) rfl rfl (put3_bx (unhide HY) _ _ _)) rfl ?_
    exact ⟨⟨_, _, _, _, rfl, OwnL.nil _ _, .inr (((unhide HER).put3 (by simp)).mono (by simp; omega))⟩, put3_below (unhide HB) (by omega)⟩
end Go.Proofs.YtmmhdhpocjnlbaaGreatDoor.Et
/- Proved here: entries.Append: what it tells of any log and any entries. Helper contracts. -/
namespace Go.Proofs.YtmmhdhpocjnlbaaGreatDoor.Et
open Go.RowKit Nt
set_option maxRecDepth 100000

theorem chkR_bad {L : Lo} (h : ¬ May L) (r : Int × Lo) : chkR L r = (1, lo0) := if_neg h
theorem chkR_ok {L : Lo} (h : May L) (r : Int × Lo) : chkR L r = r := if_pos h
theorem splR_z (L : Lo) (k : Nat) (es : List En) : (splR L k es).1 ≠ 0 → (splR L k es).2 = lo0 := by
  unfold splR
  split
  · intro _; rfl
  · split
    · intro h; exact absurd rfl h
    · intro _; rfl
theorem apR_no {L : Lo} {es : List En} (h : ¬ GoOn (lastI L) (lastT L) es) : apR L es = (1, lo0) := if_neg h
theorem apR_spl {L : Lo} {es : List En} (hm : May L) (h : GoOn (lastI L) (lastT L) es) : splR L L.es.length es = apR L es := by
  unfold apR splR
  rw [if_pos h]
  by_cases h2 : 512 < L.es.length + es.length
  · rw [if_pos h2, if_pos h2]
  · rw [if_neg h2, if_neg h2, List.take_of_length_le (Nat.le_refl _), if_pos (hm.app es (by omega) h)]
end Go.Proofs.YtmmhdhpocjnlbaaGreatDoor.Et
/- Proved here: entries.has: whether a log that may be has an entry, or its base, of an index and a term. Helper contracts. -/
namespace Go.Proofs.YtmmhdhpocjnlbaaGreatDoor.Et
open Go.RowKit Nt
set_option maxRecDepth 100000

theorem eqNil8 (m : Int) (w : World) : (binOp .eql 31 .nilIface (.iface 61 (.int .i64 m))).run Tryz.prog w = .ok (.bool false) w := by kernel_rfl
theorem isnil8 (m : Int) (w : World) : Calls Tryz.prog 76 #[.nilIface, .iface 61 (.int .i64 m)] w fun e w' => e = .returned (.bool false) ∧ w' = w := by
  have q := eqNil8
  go_enter Tryz.func76, Tryz.ntmps76
  go_wp2
  go_ret
  exact ⟨rfl, rfl⟩
theorem is8 (w : World) : Calls Tryz.prog 76 #[.iface 61 (.int .i64 8), .iface 61 (.int .i64 8)] w fun e w' => e = .returned (.bool true) ∧ w' = w := by
  refine (er_Is 0 (by omega) (.iface 61 (.int .i64 8)) 8 8 w rfl).mono ?_
  rintro e w' ⟨rfl, rfl⟩
  exact ⟨rfl, rfl⟩
set_option maxHeartbeats 4000000 in
theorem has_any (b t : Int) (ao : Option Addr) (n cap : Nat) (l : List En) (i u : Int) (w : World) (h : Es w ao n cap l) (hm : May ⟨b, t, l⟩) :
    Calls Tryz.prog 64 #[.agg #[.int .i64 b, .int .i64 t, .slice ao n cap], .int .i64 i, .int .i64 u] w fun e w' => e = .returned (.bool (decide (termAt ⟨b, t, l⟩ i = some u))) ∧ Below w.heap.size w w' := by
  have HB0 : Hid (Below w.heap.size w (w.alloc (.cells #[.int .i64 b, .int .i64 t, .slice ao n cap] 85))) := (Below.refl _ _).alloc (Nat.le_refl _) _
  have HE := hide (h.below (unhide HB0))
  have HM := hide hm
  obtain ⟨d, hd⟩ : ∃ d, d = termAt ⟨b, t, l⟩ i := ⟨_, rfl⟩
  have HD := hide hd
  rw [← hd]
  clear hd hm h
  rcases d with _ | y
  · go_enter Tryz.func64, Tryz.ntmps64
    go_wp2_with fail
    refine (termAt_any b t ao n cap l i _ (unhide HE) (unhide HM)).mono ?_
    rw [← unhide HD]
    rintro e w2 ⟨rfl, hb⟩
    have HB : Hid (Below w.heap.size w w2) := bnx (unhide HB0) hb
    clear hb
    unfold tmRes
    go_wp2_with fail
    refine (is8 w2).mono ?_
    rintro e w3 ⟨rfl, hw⟩
    obtain rfl := hw.symm
    go_wp2
    go_ret
    exact ⟨ret_bool (decide_eq_false (by simp)).symm, unhide HB⟩
  · by_cases hy : y = u
    · subst hy
      go_enter Tryz.func64, Tryz.ntmps64
      go_wp2_with fail
      refine (termAt_any b t ao n cap l i _ (unhide HE) (unhide HM)).mono ?_
      rw [← unhide HD]
      rintro e w2 ⟨rfl, hb⟩
      have HB : Hid (Below w.heap.size w w2) := bnx (unhide HB0) hb
      clear hb
      unfold tmRes
      go_wp2_with fail
      refine (isnil8 8 w2).mono ?_
      rintro e w3 ⟨rfl, hw⟩
      obtain rfl := hw.symm
      go_wp2
      go_ret
      exact ⟨ret_bool (by simp), unhide HB⟩
    · have hyd : (y == u) = false := beq_eq_false_iff_ne.2 hy
      have HF : Hid (false = decide (some y = some u)) := (decide_eq_false (fun e => hy (Option.some.inj e))).symm
      go_enter Tryz.func64, Tryz.ntmps64
      go_wp2_with fail
      refine (termAt_any b t ao n cap l i _ (unhide HE) (unhide HM)).mono ?_
      rw [← unhide HD]
      rintro e w2 ⟨rfl, hb⟩
      have HB : Hid (Below w.heap.size w w2) := bnx (unhide HB0) hb
      clear hb
      unfold tmRes
      go_wp2_with fail
      refine (isnil8 8 w2).mono ?_
      rintro e w3 ⟨rfl, hw⟩
      obtain rfl := hw.symm
      go_wp2
      go_ret
      exact ⟨ret_bool (unhide HF), unhide HB⟩
end Go.Proofs.YtmmhdhpocjnlbaaGreatDoor.Et
