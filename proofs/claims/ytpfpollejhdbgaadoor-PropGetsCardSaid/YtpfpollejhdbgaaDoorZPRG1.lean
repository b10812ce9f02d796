/- Proved here: dovecoteref3.get reads one property with which bytes begin, or tells 0 bytes. Helper contracts. -/
import Derived.Test.YtpfpollejhdbgaaDoorM9
namespace Go.Proofs.YtpfpollejhdbgaaDoor
open Go.RowKit
set_option maxRecDepth 100000

theorem kind_tell (id k : Int) (h : kd id = k) (w : World) : Calls Tryd.prog 39 #[.int .i64 id] w fun e w' => e = .returned (.int .i64 k) ∧ w' = w := by
  subst h
  exact kind_any id w
theorem rvget_good (v : Value) (l : List Int) (w : World) (h : Byt w v l) (n : Int) (K : Nat) (hv : V.vget l = (n, (K : Int), 0)) : Calls Tryd.prog 37 #[v] w fun e w' => e = .returned (.tuple #[.int .i64 n, .int .i64 K, .int .i64 0]) ∧ Below w.heap.size w w' := by
  refine (V.rget_any v l w h).mono ?_
  rintro e w' ⟨rfl, hb⟩
  rw [hv]
  exact ⟨rfl, hb⟩
theorem rvget_fail (v : Value) (l : List Int) (w : World) (h : Byt w v l) (m : Int) (hv : (V.vget l).2.2 = m) : Calls Tryd.prog 37 #[v] w fun e w' => ∃ a b, e = .returned (.tuple #[.int .i64 a, .int .i64 b, .int .i64 m]) ∧ Below w.heap.size w w' := by
  refine (V.rget_any v l w h).mono ?_
  rintro e w' ⟨rfl, hb⟩
  rw [hv]
  exact ⟨_, _, rfl, hb⟩
theorem rtget_good (v : Value) (l : List Int) (w : World) (h : Byt w v l) (n : ByteArray) (K : Nat) (hv : gt l = (n, (K : Int), 0)) : Calls Tryd.prog 51 #[v] w fun e w' => e = .returned (.tuple #[.string n, .int .i64 K, .int .i64 0]) ∧ Below w.heap.size w w' := by
  refine (rget_any v l w h).mono ?_
  rintro e w' ⟨rfl, hb⟩
  rw [hv]
  exact ⟨rfl, hb⟩
theorem rtget_fail (v : Value) (l : List Int) (w : World) (h : Byt w v l) (m : Int) (hv : (gt l).2.2 = m) : Calls Tryd.prog 51 #[v] w fun e w' => ∃ a b, e = .returned (.tuple #[.string a, .int .i64 b, .int .i64 m]) ∧ Below w.heap.size w w' := by
  refine (rget_any v l w h).mono ?_
  rintro e w' ⟨rfl, hb⟩
  rw [hv]
  exact ⟨_, _, rfl, hb⟩
theorem rtbin_good (v : Value) (l : List Int) (w : World) (h : Byt w v l) (n : ByteArray) (K : Nat) (hv : gbn l = (n, (K : Int), 0)) : Calls Tryd.prog 52 #[v] w fun e w' => e = .returned (.tuple #[.string n, .int .i64 K, .int .i64 0]) ∧ Below w.heap.size w w' := by
  refine (rgetBin_any v l w h).mono ?_
  rintro e w' ⟨rfl, hb⟩
  rw [hv]
  exact ⟨rfl, hb⟩
theorem rtbin_fail (v : Value) (l : List Int) (w : World) (h : Byt w v l) (m : Int) (hv : (gbn l).2.2 = m) : Calls Tryd.prog 52 #[v] w fun e w' => ∃ a b, e = .returned (.tuple #[.string a, .int .i64 b, .int .i64 m]) ∧ Below w.heap.size w w' := by
  refine (rgetBin_any v l w h).mono ?_
  rintro e w' ⟨rfl, hb⟩
  rw [hv]
  exact ⟨_, _, rfl, hb⟩
/-- a return of a property that lies in memory, and a number -/
theorem res_p2 {fn : Func} {a t : Tmp} (h : fn.results = #[.cell a 49, .tmp t]) {tmps : Array Value} {w : World} {B : Nat} {v0 v1 v2 v3 : Value} (ha : tmps[a]?.getD undef = .pointer (some ⟨B, 0, none⟩)) (c0 : w.cell? ⟨B, 0, none⟩ = some v0) (c1 : w.cell? ⟨B, 1, none⟩ = some v1) (c2 : w.cell? ⟨B, 2, none⟩ = some v2) (c3 : w.cell? ⟨B, 3, none⟩ = some v3) :
    (results fn tmps).run Tryd.prog w = .ok (.tuple #[.agg #[v0, v1, v2, v3], tmps[t]?.getD undef]) w := by
  simp [results, h, ha, go_sem, c0, c1, c2, c3]
def RgOk (p : Pr) (K : Int) (w : World) (e : Ending) (w' : World) : Prop := e = .returned (.tuple #[.agg #[.int .i64 p.1, .int .i64 p.2.1, .string p.2.2.1, .string p.2.2.2], .int .i64 K]) ∧ Below w.heap.size w w'
def RgBad (w : World) (e : Ending) (w' : World) : Prop := ∃ i n s t, e = .returned (.tuple #[.agg #[.int .i64 i, .int .i64 n, .string s, .string t], .int .i64 0]) ∧ Below w.heap.size w w'
set_option maxHeartbeats 2000000 in
theorem rg_text (v : Value) (l : List Int) (w : World) (h : Byt w v l) (id : Int) (Q : Nat) (hv : V.vget l = (id, (Q : Int), 0)) (hQ : 1 ≤ Q ∧ Q ≤ l.length) (hQ4 : Q ≤ 4) (hk : kd id = 6) (s : ByteArray) (M : Nat) (hg : gt (l.drop Q) = (s, (M : Int), 0)) (hM : 1 ≤ M) (hM2 : Q + M ≤ l.length) : Calls Tryd.prog 38 #[v] w (RgOk (id, 0, s, es) (Q + M : Nat) w) := by
  obtain ⟨b, off, cap, rfl, hc1, hc2⟩ := h.form1 (by omega)
  unfold maxLen at hc2
  have HV := hide h
  have Hhv := hide hv
  have HKD := hide hk
  have Hhg := hide hg
  clear h hv hk hg
  generalize hn : l.length = n at hc1 hQ HV hM2
  have HN := hide hn
  clear hn
  have hcQ : ¬ cap = Q := by omega
  go_enter Tryd.func38, Tryd.ntmps38
  go_wp2_with fail
  refine (rvget_good _ l _ ((unhide HV).below ((Below.refl _ _).alloc (Nat.le_refl _) _)) id Q (unhide Hhv)).mono ?_
  rintro e w1 ⟨rfl, hb1⟩
  have HB1 : Hid (Below w.heap.size w w1) := ((Below.refl _ _).alloc (Nat.le_refl _) _).trans (hb1.mono (by simp))
  have HD : Hid (Byt w1 (.slice (some ⟨b, off + Q, none⟩) (n - Q) (cap - Q)) (l.drop Q)) := by
    show Byt _ _ _
    have := ((unhide HV).below (unhide HB1)).drop' Q (by omega)
    rw [if_neg hcQ] at this; exact this
  have q0 : w1.cell? ⟨w.heap.size, 0, none⟩ = some (.int .i64 0) := (hb1.cell (p := ⟨w.heap.size, 0, none⟩) (by simp)).trans (by simp)
  have f0 : w1.frozen? ⟨w.heap.size, 0, none⟩ = false := (hb1.frozen (p := ⟨w.heap.size, 0, none⟩) (by simp)).trans (by simp)
  have q1 : w1.cell? ⟨w.heap.size, 1, none⟩ = some (.int .i64 0) := (hb1.cell (p := ⟨w.heap.size, 1, none⟩) (by simp)).trans (by simp)
  have f1 : w1.frozen? ⟨w.heap.size, 1, none⟩ = false := (hb1.frozen (p := ⟨w.heap.size, 1, none⟩) (by simp)).trans (by simp)
  have q2 : w1.cell? ⟨w.heap.size, 2, none⟩ = some (.string ⟨#[]⟩) := (hb1.cell (p := ⟨w.heap.size, 2, none⟩) (by simp)).trans (by simp)
  have f2 : w1.frozen? ⟨w.heap.size, 2, none⟩ = false := (hb1.frozen (p := ⟨w.heap.size, 2, none⟩) (by simp)).trans (by simp)
  have q3 : w1.cell? ⟨w.heap.size, 3, none⟩ = some (.string ⟨#[]⟩) := (hb1.cell (p := ⟨w.heap.size, 3, none⟩) (by simp)).trans (by simp)
  have f3 : w1.frozen? ⟨w.heap.size, 3, none⟩ = false := (hb1.frozen (p := ⟨w.heap.size, 3, none⟩) (by simp)).trans (by simp)
  have hl1 : w.heap.size < w1.heap.size := cell_lt q0
  have hne : ¬ w1.heap.size = w.heap.size := by omega
  clear hb1
  go_wp2_with (first | (go_at_call 39; refine (kind_tell id 6 (unhide HKD) _).mono ?_; rintro e w2 ⟨rfl, hw⟩; obtain rfl := hw.symm; clear hw) | fail)
  refine (rtget_good _ _ _ ((unhide HD).below ((Below.refl _ _).alloc (Nat.le_refl _) _)) s M (unhide Hhg)).mono ?_
  rintro e w2 ⟨rfl, hb2⟩
  have p0 : w2.cell? ⟨w1.heap.size, 0, none⟩ = some (.int .i64 id) := (hb2.cell (p := ⟨w1.heap.size, 0, none⟩) (by simp)).trans (by simp)
  have h0 : w2.frozen? ⟨w1.heap.size, 0, none⟩ = false := (hb2.frozen (p := ⟨w1.heap.size, 0, none⟩) (by simp)).trans (by simp)
  have p1 : w2.cell? ⟨w1.heap.size, 1, none⟩ = some (.int .i64 0) := (hb2.cell (p := ⟨w1.heap.size, 1, none⟩) (by simp)).trans (by simp)
  have h1 : w2.frozen? ⟨w1.heap.size, 1, none⟩ = false := (hb2.frozen (p := ⟨w1.heap.size, 1, none⟩) (by simp)).trans (by simp)
  have p2 : w2.cell? ⟨w1.heap.size, 2, none⟩ = some (.string ⟨#[]⟩) := (hb2.cell (p := ⟨w1.heap.size, 2, none⟩) (by simp)).trans (by simp)
  have h2 : w2.frozen? ⟨w1.heap.size, 2, none⟩ = false := (hb2.frozen (p := ⟨w1.heap.size, 2, none⟩) (by simp)).trans (by simp)
  have p3 : w2.cell? ⟨w1.heap.size, 3, none⟩ = some (.string ⟨#[]⟩) := (hb2.cell (p := ⟨w1.heap.size, 3, none⟩) (by simp)).trans (by simp)
  have h3 : w2.frozen? ⟨w1.heap.size, 3, none⟩ = false := (hb2.frozen (p := ⟨w1.heap.size, 3, none⟩) (by simp)).trans (by simp)
  have r0 : w2.cell? ⟨w.heap.size, 0, none⟩ = some (.int .i64 0) := (hb2.cell (p := ⟨w.heap.size, 0, none⟩) (by simp; omega)).trans ((World.cell?_alloc_lt _ _ ⟨w.heap.size, 0, none⟩ (by exact hl1)).trans q0)
  have r1 : w2.cell? ⟨w.heap.size, 1, none⟩ = some (.int .i64 0) := (hb2.cell (p := ⟨w.heap.size, 1, none⟩) (by simp; omega)).trans ((World.cell?_alloc_lt _ _ ⟨w.heap.size, 1, none⟩ (by exact hl1)).trans q1)
  have r2 : w2.cell? ⟨w.heap.size, 2, none⟩ = some (.string ⟨#[]⟩) := (hb2.cell (p := ⟨w.heap.size, 2, none⟩) (by simp; omega)).trans ((World.cell?_alloc_lt _ _ ⟨w.heap.size, 2, none⟩ (by exact hl1)).trans q2)
  have r3 : w2.cell? ⟨w.heap.size, 3, none⟩ = some (.string ⟨#[]⟩) := (hb2.cell (p := ⟨w.heap.size, 3, none⟩) (by simp; omega)).trans ((World.cell?_alloc_lt _ _ ⟨w.heap.size, 3, none⟩ (by exact hl1)).trans q3)
  have g0 : w2.frozen? ⟨w.heap.size, 0, none⟩ = false := (hb2.frozen (p := ⟨w.heap.size, 0, none⟩) (by simp; omega)).trans ((((Below.refl w1.heap.size w1).alloc (Nat.le_refl _) _).frozen (p := ⟨w.heap.size, 0, none⟩) hl1).trans f0)
  have g1 : w2.frozen? ⟨w.heap.size, 1, none⟩ = false := (hb2.frozen (p := ⟨w.heap.size, 1, none⟩) (by simp; omega)).trans ((((Below.refl w1.heap.size w1).alloc (Nat.le_refl _) _).frozen (p := ⟨w.heap.size, 1, none⟩) hl1).trans f1)
  have g2 : w2.frozen? ⟨w.heap.size, 2, none⟩ = false := (hb2.frozen (p := ⟨w.heap.size, 2, none⟩) (by simp; omega)).trans ((((Below.refl w1.heap.size w1).alloc (Nat.le_refl _) _).frozen (p := ⟨w.heap.size, 2, none⟩) hl1).trans f2)
  have g3 : w2.frozen? ⟨w.heap.size, 3, none⟩ = false := (hb2.frozen (p := ⟨w.heap.size, 3, none⟩) (by simp; omega)).trans ((((Below.refl w1.heap.size w1).alloc (Nat.le_refl _) _).frozen (p := ⟨w.heap.size, 3, none⟩) hl1).trans f3)
  have HB2 : Hid (Below w.heap.size w w2) := ((unhide HB1).alloc (unhide HB1).size _).trans (hb2.mono (by simp; omega))
  clear hb2
  go_wp2
  (try simp only [Exit.inBlock, Exit.then])
  refine bodyPost_ret (res_p2 (B := w.heap.size) (v0 := .int .i64 id) (v1 := .int .i64 0) (v2 := .string s) (v3 := .string ⟨#[]⟩) rfl rfl ?c0 ?c1 ?c2 ?c3) rfl ?_
  case c0 => simp (maxDischargeDepth := 12) [cell_set, r0]
  case c1 => simp (maxDischargeDepth := 12) [cell_set, r1]
  case c2 => simp (maxDischargeDepth := 12) [cell_set, r2]
  case c3 => simp (maxDischargeDepth := 12) [cell_set, r3]
  exact ⟨by go_num, by have := unhide HB2; go_grown⟩
set_option maxHeartbeats 2000000 in
theorem rg_text_bad (v : Value) (l : List Int) (w : World) (h : Byt w v l) (id : Int) (Q : Nat) (hv : V.vget l = (id, (Q : Int), 0)) (hQ : 1 ≤ Q ∧ Q ≤ l.length) (hQ4 : Q ≤ 4) (hk : kd id = 6) (m : Int) (hg : (gt (l.drop Q)).2.2 = m) (hm : m ≠ 0) : Calls Tryd.prog 38 #[v] w (RgBad w) := by
  obtain ⟨b, off, cap, rfl, hc1, hc2⟩ := h.form1 (by omega)
  unfold maxLen at hc2
  have HV := hide h
  have Hhv := hide hv
  have HKD := hide hk
  have Hhg := hide hg
  clear h hv hk hg
  generalize hn : l.length = n at hc1 hQ HV 
  have HN := hide hn
  clear hn
  by_cases hcQ : cap = Q
  · have e1 : Q = cap := hcQ.symm
    clear hcQ
    subst e1
    have e2 : Q = n := by omega
    subst e2
    go_enter Tryd.func38, Tryd.ntmps38
    go_wp2_with fail
    refine (rvget_good _ l _ ((unhide HV).below ((Below.refl _ _).alloc (Nat.le_refl _) _)) id Q (unhide Hhv)).mono ?_
    rintro e w1 ⟨rfl, hb1⟩
    have HB1 : Hid (Below w.heap.size w w1) := ((Below.refl _ _).alloc (Nat.le_refl _) _).trans (hb1.mono (by simp))
    have HD : Hid (Byt w1 (.slice (some ⟨b, off, none⟩) 0 0) (l.drop Q)) := by
      show Byt _ _ _
      have := ((unhide HV).below (unhide HB1)).drop' Q (by omega)
      rw [if_pos rfl, Nat.sub_self] at this; exact this
    have q0 : w1.cell? ⟨w.heap.size, 0, none⟩ = some (.int .i64 0) := (hb1.cell (p := ⟨w.heap.size, 0, none⟩) (by simp)).trans (by simp)
    have f0 : w1.frozen? ⟨w.heap.size, 0, none⟩ = false := (hb1.frozen (p := ⟨w.heap.size, 0, none⟩) (by simp)).trans (by simp)
    have q1 : w1.cell? ⟨w.heap.size, 1, none⟩ = some (.int .i64 0) := (hb1.cell (p := ⟨w.heap.size, 1, none⟩) (by simp)).trans (by simp)
    have f1 : w1.frozen? ⟨w.heap.size, 1, none⟩ = false := (hb1.frozen (p := ⟨w.heap.size, 1, none⟩) (by simp)).trans (by simp)
    have q2 : w1.cell? ⟨w.heap.size, 2, none⟩ = some (.string ⟨#[]⟩) := (hb1.cell (p := ⟨w.heap.size, 2, none⟩) (by simp)).trans (by simp)
    have f2 : w1.frozen? ⟨w.heap.size, 2, none⟩ = false := (hb1.frozen (p := ⟨w.heap.size, 2, none⟩) (by simp)).trans (by simp)
    have q3 : w1.cell? ⟨w.heap.size, 3, none⟩ = some (.string ⟨#[]⟩) := (hb1.cell (p := ⟨w.heap.size, 3, none⟩) (by simp)).trans (by simp)
    have f3 : w1.frozen? ⟨w.heap.size, 3, none⟩ = false := (hb1.frozen (p := ⟨w.heap.size, 3, none⟩) (by simp)).trans (by simp)
    have hl1 : w.heap.size < w1.heap.size := cell_lt q0
    have hne : ¬ w1.heap.size = w.heap.size := by omega
    clear hb1
    go_wp2_with (first | (go_at_call 39; refine (kind_tell id 6 (unhide HKD) _).mono ?_; rintro e w2 ⟨rfl, hw⟩; obtain rfl := hw.symm; clear hw) | fail)
    refine (rtget_fail _ _ _ ((unhide HD).below ((Below.refl _ _).alloc (Nat.le_refl _) _)) m (unhide Hhg)).mono ?_
    rintro e w2 ⟨a, b2, rfl, hb2⟩
    have p0 : w2.cell? ⟨w1.heap.size, 0, none⟩ = some (.int .i64 id) := (hb2.cell (p := ⟨w1.heap.size, 0, none⟩) (by simp)).trans (by simp)
    have h0 : w2.frozen? ⟨w1.heap.size, 0, none⟩ = false := (hb2.frozen (p := ⟨w1.heap.size, 0, none⟩) (by simp)).trans (by simp)
    have p1 : w2.cell? ⟨w1.heap.size, 1, none⟩ = some (.int .i64 0) := (hb2.cell (p := ⟨w1.heap.size, 1, none⟩) (by simp)).trans (by simp)
    have h1 : w2.frozen? ⟨w1.heap.size, 1, none⟩ = false := (hb2.frozen (p := ⟨w1.heap.size, 1, none⟩) (by simp)).trans (by simp)
    have p2 : w2.cell? ⟨w1.heap.size, 2, none⟩ = some (.string ⟨#[]⟩) := (hb2.cell (p := ⟨w1.heap.size, 2, none⟩) (by simp)).trans (by simp)
    have h2 : w2.frozen? ⟨w1.heap.size, 2, none⟩ = false := (hb2.frozen (p := ⟨w1.heap.size, 2, none⟩) (by simp)).trans (by simp)
    have p3 : w2.cell? ⟨w1.heap.size, 3, none⟩ = some (.string ⟨#[]⟩) := (hb2.cell (p := ⟨w1.heap.size, 3, none⟩) (by simp)).trans (by simp)
    have h3 : w2.frozen? ⟨w1.heap.size, 3, none⟩ = false := (hb2.frozen (p := ⟨w1.heap.size, 3, none⟩) (by simp)).trans (by simp)
    have r0 : w2.cell? ⟨w.heap.size, 0, none⟩ = some (.int .i64 0) := (hb2.cell (p := ⟨w.heap.size, 0, none⟩) (by simp; omega)).trans ((World.cell?_alloc_lt _ _ ⟨w.heap.size, 0, none⟩ (by exact hl1)).trans q0)
    have r1 : w2.cell? ⟨w.heap.size, 1, none⟩ = some (.int .i64 0) := (hb2.cell (p := ⟨w.heap.size, 1, none⟩) (by simp; omega)).trans ((World.cell?_alloc_lt _ _ ⟨w.heap.size, 1, none⟩ (by exact hl1)).trans q1)
    have r2 : w2.cell? ⟨w.heap.size, 2, none⟩ = some (.string ⟨#[]⟩) := (hb2.cell (p := ⟨w.heap.size, 2, none⟩) (by simp; omega)).trans ((World.cell?_alloc_lt _ _ ⟨w.heap.size, 2, none⟩ (by exact hl1)).trans q2)
    have r3 : w2.cell? ⟨w.heap.size, 3, none⟩ = some (.string ⟨#[]⟩) := (hb2.cell (p := ⟨w.heap.size, 3, none⟩) (by simp; omega)).trans ((World.cell?_alloc_lt _ _ ⟨w.heap.size, 3, none⟩ (by exact hl1)).trans q3)
    have g0 : w2.frozen? ⟨w.heap.size, 0, none⟩ = false := (hb2.frozen (p := ⟨w.heap.size, 0, none⟩) (by simp; omega)).trans ((((Below.refl w1.heap.size w1).alloc (Nat.le_refl _) _).frozen (p := ⟨w.heap.size, 0, none⟩) hl1).trans f0)
    have g1 : w2.frozen? ⟨w.heap.size, 1, none⟩ = false := (hb2.frozen (p := ⟨w.heap.size, 1, none⟩) (by simp; omega)).trans ((((Below.refl w1.heap.size w1).alloc (Nat.le_refl _) _).frozen (p := ⟨w.heap.size, 1, none⟩) hl1).trans f1)
    have g2 : w2.frozen? ⟨w.heap.size, 2, none⟩ = false := (hb2.frozen (p := ⟨w.heap.size, 2, none⟩) (by simp; omega)).trans ((((Below.refl w1.heap.size w1).alloc (Nat.le_refl _) _).frozen (p := ⟨w.heap.size, 2, none⟩) hl1).trans f2)
    have g3 : w2.frozen? ⟨w.heap.size, 3, none⟩ = false := (hb2.frozen (p := ⟨w.heap.size, 3, none⟩) (by simp; omega)).trans ((((Below.refl w1.heap.size w1).alloc (Nat.le_refl _) _).frozen (p := ⟨w.heap.size, 3, none⟩) hl1).trans f3)
    have HB2 : Hid (Below w.heap.size w w2) := ((unhide HB1).alloc (unhide HB1).size _).trans (hb2.mono (by simp; omega))
    clear hb2
    go_wp2
    (try simp only [Exit.inBlock, Exit.then])
    refine bodyPost_ret (res_p2 (B := w.heap.size) (v0 := .int .i64 id) (v1 := .int .i64 0) (v2 := .string a) (v3 := .string ⟨#[]⟩) rfl rfl ?c0 ?c1 ?c2 ?c3) rfl ?_
    case c0 => simp (maxDischargeDepth := 12) [cell_set, r0]
    case c1 => simp (maxDischargeDepth := 12) [cell_set, r1]
    case c2 => simp (maxDischargeDepth := 12) [cell_set, r2]
    case c3 => simp (maxDischargeDepth := 12) [cell_set, r3]
    exact ⟨_, _, _, _, rfl, by have := unhide HB2; go_grown⟩
  · go_enter Tryd.func38, Tryd.ntmps38
    go_wp2_with fail
    refine (rvget_good _ l _ ((unhide HV).below ((Below.refl _ _).alloc (Nat.le_refl _) _)) id Q (unhide Hhv)).mono ?_
    rintro e w1 ⟨rfl, hb1⟩
    have HB1 : Hid (Below w.heap.size w w1) := ((Below.refl _ _).alloc (Nat.le_refl _) _).trans (hb1.mono (by simp))
    have HD : Hid (Byt w1 (.slice (some ⟨b, off + Q, none⟩) (n - Q) (cap - Q)) (l.drop Q)) := by
      show Byt _ _ _
      have := ((unhide HV).below (unhide HB1)).drop' Q (by omega)
      rw [if_neg hcQ] at this; exact this
    have q0 : w1.cell? ⟨w.heap.size, 0, none⟩ = some (.int .i64 0) := (hb1.cell (p := ⟨w.heap.size, 0, none⟩) (by simp)).trans (by simp)
    have f0 : w1.frozen? ⟨w.heap.size, 0, none⟩ = false := (hb1.frozen (p := ⟨w.heap.size, 0, none⟩) (by simp)).trans (by simp)
    have q1 : w1.cell? ⟨w.heap.size, 1, none⟩ = some (.int .i64 0) := (hb1.cell (p := ⟨w.heap.size, 1, none⟩) (by simp)).trans (by simp)
    have f1 : w1.frozen? ⟨w.heap.size, 1, none⟩ = false := (hb1.frozen (p := ⟨w.heap.size, 1, none⟩) (by simp)).trans (by simp)
    have q2 : w1.cell? ⟨w.heap.size, 2, none⟩ = some (.string ⟨#[]⟩) := (hb1.cell (p := ⟨w.heap.size, 2, none⟩) (by simp)).trans (by simp)
    have f2 : w1.frozen? ⟨w.heap.size, 2, none⟩ = false := (hb1.frozen (p := ⟨w.heap.size, 2, none⟩) (by simp)).trans (by simp)
    have q3 : w1.cell? ⟨w.heap.size, 3, none⟩ = some (.string ⟨#[]⟩) := (hb1.cell (p := ⟨w.heap.size, 3, none⟩) (by simp)).trans (by simp)
    have f3 : w1.frozen? ⟨w.heap.size, 3, none⟩ = false := (hb1.frozen (p := ⟨w.heap.size, 3, none⟩) (by simp)).trans (by simp)
    have hl1 : w.heap.size < w1.heap.size := cell_lt q0
    have hne : ¬ w1.heap.size = w.heap.size := by omega
    clear hb1
    go_wp2_with (first | (go_at_call 39; refine (kind_tell id 6 (unhide HKD) _).mono ?_; rintro e w2 ⟨rfl, hw⟩; obtain rfl := hw.symm; clear hw) | fail)
    refine (rtget_fail _ _ _ ((unhide HD).below ((Below.refl _ _).alloc (Nat.le_refl _) _)) m (unhide Hhg)).mono ?_
    rintro e w2 ⟨a, b2, rfl, hb2⟩
    have p0 : w2.cell? ⟨w1.heap.size, 0, none⟩ = some (.int .i64 id) := (hb2.cell (p := ⟨w1.heap.size, 0, none⟩) (by simp)).trans (by simp)
    have h0 : w2.frozen? ⟨w1.heap.size, 0, none⟩ = false := (hb2.frozen (p := ⟨w1.heap.size, 0, none⟩) (by simp)).trans (by simp)
    have p1 : w2.cell? ⟨w1.heap.size, 1, none⟩ = some (.int .i64 0) := (hb2.cell (p := ⟨w1.heap.size, 1, none⟩) (by simp)).trans (by simp)
    have h1 : w2.frozen? ⟨w1.heap.size, 1, none⟩ = false := (hb2.frozen (p := ⟨w1.heap.size, 1, none⟩) (by simp)).trans (by simp)
    have p2 : w2.cell? ⟨w1.heap.size, 2, none⟩ = some (.string ⟨#[]⟩) := (hb2.cell (p := ⟨w1.heap.size, 2, none⟩) (by simp)).trans (by simp)
    have h2 : w2.frozen? ⟨w1.heap.size, 2, none⟩ = false := (hb2.frozen (p := ⟨w1.heap.size, 2, none⟩) (by simp)).trans (by simp)
    have p3 : w2.cell? ⟨w1.heap.size, 3, none⟩ = some (.string ⟨#[]⟩) := (hb2.cell (p := ⟨w1.heap.size, 3, none⟩) (by simp)).trans (by simp)
    have h3 : w2.frozen? ⟨w1.heap.size, 3, none⟩ = false := (hb2.frozen (p := ⟨w1.heap.size, 3, none⟩) (by simp)).trans (by simp)
    have r0 : w2.cell? ⟨w.heap.size, 0, none⟩ = some (.int .i64 0) := (hb2.cell (p := ⟨w.heap.size, 0, none⟩) (by simp; omega)).trans ((World.cell?_alloc_lt _ _ ⟨w.heap.size, 0, none⟩ (by exact hl1)).trans q0)
    have r1 : w2.cell? ⟨w.heap.size, 1, none⟩ = some (.int .i64 0) := (hb2.cell (p := ⟨w.heap.size, 1, none⟩) (by simp; omega)).trans ((World.cell?_alloc_lt _ _ ⟨w.heap.size, 1, none⟩ (by exact hl1)).trans q1)
    have r2 : w2.cell? ⟨w.heap.size, 2, none⟩ = some (.string ⟨#[]⟩) := (hb2.cell (p := ⟨w.heap.size, 2, none⟩) (by simp; omega)).trans ((World.cell?_alloc_lt _ _ ⟨w.heap.size, 2, none⟩ (by exact hl1)).trans q2)
    have r3 : w2.cell? ⟨w.heap.size, 3, none⟩ = some (.string ⟨#[]⟩) := (hb2.cell (p := ⟨w.heap.size, 3, none⟩) (by simp; omega)).trans ((World.cell?_alloc_lt _ _ ⟨w.heap.size, 3, none⟩ (by exact hl1)).trans q3)
    have g0 : w2.frozen? ⟨w.heap.size, 0, none⟩ = false := (hb2.frozen (p := ⟨w.heap.size, 0, none⟩) (by simp; omega)).trans ((((Below.refl w1.heap.size w1).alloc (Nat.le_refl _) _).frozen (p := ⟨w.heap.size, 0, none⟩) hl1).trans f0)
    have g1 : w2.frozen? ⟨w.heap.size, 1, none⟩ = false := (hb2.frozen (p := ⟨w.heap.size, 1, none⟩) (by simp; omega)).trans ((((Below.refl w1.heap.size w1).alloc (Nat.le_refl _) _).frozen (p := ⟨w.heap.size, 1, none⟩) hl1).trans f1)
    have g2 : w2.frozen? ⟨w.heap.size, 2, none⟩ = false := (hb2.frozen (p := ⟨w.heap.size, 2, none⟩) (by simp; omega)).trans ((((Below.refl w1.heap.size w1).alloc (Nat.le_refl _) _).frozen (p := ⟨w.heap.size, 2, none⟩) hl1).trans f2)
    have g3 : w2.frozen? ⟨w.heap.size, 3, none⟩ = false := (hb2.frozen (p := ⟨w.heap.size, 3, none⟩) (by simp; omega)).trans ((((Below.refl w1.heap.size w1).alloc (Nat.le_refl _) _).frozen (p := ⟨w.heap.size, 3, none⟩) hl1).trans f3)
    have HB2 : Hid (Below w.heap.size w w2) := ((unhide HB1).alloc (unhide HB1).size _).trans (hb2.mono (by simp; omega))
    clear hb2
    go_wp2
    (try simp only [Exit.inBlock, Exit.then])
    refine bodyPost_ret (res_p2 (B := w.heap.size) (v0 := .int .i64 id) (v1 := .int .i64 0) (v2 := .string a) (v3 := .string ⟨#[]⟩) rfl rfl ?c0 ?c1 ?c2 ?c3) rfl ?_
    case c0 => simp (maxDischargeDepth := 12) [cell_set, r0]
    case c1 => simp (maxDischargeDepth := 12) [cell_set, r1]
    case c2 => simp (maxDischargeDepth := 12) [cell_set, r2]
    case c3 => simp (maxDischargeDepth := 12) [cell_set, r3]
    exact ⟨_, _, _, _, rfl, by have := unhide HB2; go_grown⟩
set_option maxHeartbeats 2000000 in
theorem rg_bin (v : Value) (l : List Int) (w : World) (h : Byt w v l) (id : Int) (Q : Nat) (hv : V.vget l = (id, (Q : Int), 0)) (hQ : 1 ≤ Q ∧ Q ≤ l.length) (hQ4 : Q ≤ 4) (hk : kd id = 7) (s : ByteArray) (M : Nat) (hg : gbn (l.drop Q) = (s, (M : Int), 0)) (hM : 1 ≤ M) (hM2 : Q + M ≤ l.length) : Calls Tryd.prog 38 #[v] w (RgOk (id, 0, s, es) (Q + M : Nat) w) := by
  obtain ⟨b, off, cap, rfl, hc1, hc2⟩ := h.form1 (by omega)
  unfold maxLen at hc2
  have HV := hide h
  have Hhv := hide hv
  have HKD := hide hk
  have Hhg := hide hg
  clear h hv hk hg
  generalize hn : l.length = n at hc1 hQ HV hM2
  have HN := hide hn
  clear hn
  have hcQ : ¬ cap = Q := by omega
  go_enter Tryd.func38, Tryd.ntmps38
  go_wp2_with fail
  refine (rvget_good _ l _ ((unhide HV).below ((Below.refl _ _).alloc (Nat.le_refl _) _)) id Q (unhide Hhv)).mono ?_
  rintro e w1 ⟨rfl, hb1⟩
  have HB1 : Hid (Below w.heap.size w w1) := ((Below.refl _ _).alloc (Nat.le_refl _) _).trans (hb1.mono (by simp))
  have HD : Hid (Byt w1 (.slice (some ⟨b, off + Q, none⟩) (n - Q) (cap - Q)) (l.drop Q)) := by
    show Byt _ _ _
    have := ((unhide HV).below (unhide HB1)).drop' Q (by omega)
    rw [if_neg hcQ] at this; exact this
  have q0 : w1.cell? ⟨w.heap.size, 0, none⟩ = some (.int .i64 0) := (hb1.cell (p := ⟨w.heap.size, 0, none⟩) (by simp)).trans (by simp)
  have f0 : w1.frozen? ⟨w.heap.size, 0, none⟩ = false := (hb1.frozen (p := ⟨w.heap.size, 0, none⟩) (by simp)).trans (by simp)
  have q1 : w1.cell? ⟨w.heap.size, 1, none⟩ = some (.int .i64 0) := (hb1.cell (p := ⟨w.heap.size, 1, none⟩) (by simp)).trans (by simp)
  have f1 : w1.frozen? ⟨w.heap.size, 1, none⟩ = false := (hb1.frozen (p := ⟨w.heap.size, 1, none⟩) (by simp)).trans (by simp)
  have q2 : w1.cell? ⟨w.heap.size, 2, none⟩ = some (.string ⟨#[]⟩) := (hb1.cell (p := ⟨w.heap.size, 2, none⟩) (by simp)).trans (by simp)
  have f2 : w1.frozen? ⟨w.heap.size, 2, none⟩ = false := (hb1.frozen (p := ⟨w.heap.size, 2, none⟩) (by simp)).trans (by simp)
  have q3 : w1.cell? ⟨w.heap.size, 3, none⟩ = some (.string ⟨#[]⟩) := (hb1.cell (p := ⟨w.heap.size, 3, none⟩) (by simp)).trans (by simp)
  have f3 : w1.frozen? ⟨w.heap.size, 3, none⟩ = false := (hb1.frozen (p := ⟨w.heap.size, 3, none⟩) (by simp)).trans (by simp)
  have hl1 : w.heap.size < w1.heap.size := cell_lt q0
  have hne : ¬ w1.heap.size = w.heap.size := by omega
  clear hb1
  go_wp2_with (first | (go_at_call 39; refine (kind_tell id 7 (unhide HKD) _).mono ?_; rintro e w2 ⟨rfl, hw⟩; obtain rfl := hw.symm; clear hw) | fail)
  refine (rtbin_good _ _ _ ((unhide HD).below ((Below.refl _ _).alloc (Nat.le_refl _) _)) s M (unhide Hhg)).mono ?_
  rintro e w2 ⟨rfl, hb2⟩
  have p0 : w2.cell? ⟨w1.heap.size, 0, none⟩ = some (.int .i64 id) := (hb2.cell (p := ⟨w1.heap.size, 0, none⟩) (by simp)).trans (by simp)
  have h0 : w2.frozen? ⟨w1.heap.size, 0, none⟩ = false := (hb2.frozen (p := ⟨w1.heap.size, 0, none⟩) (by simp)).trans (by simp)
  have p1 : w2.cell? ⟨w1.heap.size, 1, none⟩ = some (.int .i64 0) := (hb2.cell (p := ⟨w1.heap.size, 1, none⟩) (by simp)).trans (by simp)
  have h1 : w2.frozen? ⟨w1.heap.size, 1, none⟩ = false := (hb2.frozen (p := ⟨w1.heap.size, 1, none⟩) (by simp)).trans (by simp)
  have p2 : w2.cell? ⟨w1.heap.size, 2, none⟩ = some (.string ⟨#[]⟩) := (hb2.cell (p := ⟨w1.heap.size, 2, none⟩) (by simp)).trans (by simp)
  have h2 : w2.frozen? ⟨w1.heap.size, 2, none⟩ = false := (hb2.frozen (p := ⟨w1.heap.size, 2, none⟩) (by simp)).trans (by simp)
  have p3 : w2.cell? ⟨w1.heap.size, 3, none⟩ = some (.string ⟨#[]⟩) := (hb2.cell (p := ⟨w1.heap.size, 3, none⟩) (by simp)).trans (by simp)
  have h3 : w2.frozen? ⟨w1.heap.size, 3, none⟩ = false := (hb2.frozen (p := ⟨w1.heap.size, 3, none⟩) (by simp)).trans (by simp)
  have r0 : w2.cell? ⟨w.heap.size, 0, none⟩ = some (.int .i64 0) := (hb2.cell (p := ⟨w.heap.size, 0, none⟩) (by simp; omega)).trans ((World.cell?_alloc_lt _ _ ⟨w.heap.size, 0, none⟩ (by exact hl1)).trans q0)
  have r1 : w2.cell? ⟨w.heap.size, 1, none⟩ = some (.int .i64 0) := (hb2.cell (p := ⟨w.heap.size, 1, none⟩) (by simp; omega)).trans ((World.cell?_alloc_lt _ _ ⟨w.heap.size, 1, none⟩ (by exact hl1)).trans q1)
  have r2 : w2.cell? ⟨w.heap.size, 2, none⟩ = some (.string ⟨#[]⟩) := (hb2.cell (p := ⟨w.heap.size, 2, none⟩) (by simp; omega)).trans ((World.cell?_alloc_lt _ _ ⟨w.heap.size, 2, none⟩ (by exact hl1)).trans q2)
  have r3 : w2.cell? ⟨w.heap.size, 3, none⟩ = some (.string ⟨#[]⟩) := (hb2.cell (p := ⟨w.heap.size, 3, none⟩) (by simp; omega)).trans ((World.cell?_alloc_lt _ _ ⟨w.heap.size, 3, none⟩ (by exact hl1)).trans q3)
  have g0 : w2.frozen? ⟨w.heap.size, 0, none⟩ = false := (hb2.frozen (p := ⟨w.heap.size, 0, none⟩) (by simp; omega)).trans ((((Below.refl w1.heap.size w1).alloc (Nat.le_refl _) _).frozen (p := ⟨w.heap.size, 0, none⟩) hl1).trans f0)
  have g1 : w2.frozen? ⟨w.heap.size, 1, none⟩ = false := (hb2.frozen (p := ⟨w.heap.size, 1, none⟩) (by simp; omega)).trans ((((Below.refl w1.heap.size w1).alloc (Nat.le_refl _) _).frozen (p := ⟨w.heap.size, 1, none⟩) hl1).trans f1)
  have g2 : w2.frozen? ⟨w.heap.size, 2, none⟩ = false := (hb2.frozen (p := ⟨w.heap.size, 2, none⟩) (by simp; omega)).trans ((((Below.refl w1.heap.size w1).alloc (Nat.le_refl _) _).frozen (p := ⟨w.heap.size, 2, none⟩) hl1).trans f2)
  have g3 : w2.frozen? ⟨w.heap.size, 3, none⟩ = false := (hb2.frozen (p := ⟨w.heap.size, 3, none⟩) (by simp; omega)).trans ((((Below.refl w1.heap.size w1).alloc (Nat.le_refl _) _).frozen (p := ⟨w.heap.size, 3, none⟩) hl1).trans f3)
  have HB2 : Hid (Below w.heap.size w w2) := ((unhide HB1).alloc (unhide HB1).size _).trans (hb2.mono (by simp; omega))
  clear hb2
  go_wp2
  (try simp only [Exit.inBlock, Exit.then])
  refine bodyPost_ret (res_p2 (B := w.heap.size) (v0 := .int .i64 id) (v1 := .int .i64 0) (v2 := .string s) (v3 := .string ⟨#[]⟩) rfl rfl ?c0 ?c1 ?c2 ?c3) rfl ?_
  case c0 => simp (maxDischargeDepth := 12) [cell_set, r0]
  case c1 => simp (maxDischargeDepth := 12) [cell_set, r1]
  case c2 => simp (maxDischargeDepth := 12) [cell_set, r2]
  case c3 => simp (maxDischargeDepth := 12) [cell_set, r3]
  exact ⟨by go_num, by have := unhide HB2; go_grown⟩
set_option maxHeartbeats 2000000 in
theorem rg_bin_bad (v : Value) (l : List Int) (w : World) (h : Byt w v l) (id : Int) (Q : Nat) (hv : V.vget l = (id, (Q : Int), 0)) (hQ : 1 ≤ Q ∧ Q ≤ l.length) (hQ4 : Q ≤ 4) (hk : kd id = 7) (m : Int) (hg : (gbn (l.drop Q)).2.2 = m) (hm : m ≠ 0) : Calls Tryd.prog 38 #[v] w (RgBad w) := by
  obtain ⟨b, off, cap, rfl, hc1, hc2⟩ := h.form1 (by omega)
  unfold maxLen at hc2
  have HV := hide h
  have Hhv := hide hv
  have HKD := hide hk
  have Hhg := hide hg
  clear h hv hk hg
  generalize hn : l.length = n at hc1 hQ HV 
  have HN := hide hn
  clear hn
  by_cases hcQ : cap = Q
  · have e1 : Q = cap := hcQ.symm
    clear hcQ
    subst e1
    have e2 : Q = n := by omega
    subst e2
    go_enter Tryd.func38, Tryd.ntmps38
    go_wp2_with fail
    refine (rvget_good _ l _ ((unhide HV).below ((Below.refl _ _).alloc (Nat.le_refl _) _)) id Q (unhide Hhv)).mono ?_
    rintro e w1 ⟨rfl, hb1⟩
    have HB1 : Hid (Below w.heap.size w w1) := ((Below.refl _ _).alloc (Nat.le_refl _) _).trans (hb1.mono (by simp))
    have HD : Hid (Byt w1 (.slice (some ⟨b, off, none⟩) 0 0) (l.drop Q)) := by
      show Byt _ _ _
      have := ((unhide HV).below (unhide HB1)).drop' Q (by omega)
      rw [if_pos rfl, Nat.sub_self] at this; exact this
    have q0 : w1.cell? ⟨w.heap.size, 0, none⟩ = some (.int .i64 0) := (hb1.cell (p := ⟨w.heap.size, 0, none⟩) (by simp)).trans (by simp)
    have f0 : w1.frozen? ⟨w.heap.size, 0, none⟩ = false := (hb1.frozen (p := ⟨w.heap.size, 0, none⟩) (by simp)).trans (by simp)
    have q1 : w1.cell? ⟨w.heap.size, 1, none⟩ = some (.int .i64 0) := (hb1.cell (p := ⟨w.heap.size, 1, none⟩) (by simp)).trans (by simp)
    have f1 : w1.frozen? ⟨w.heap.size, 1, none⟩ = false := (hb1.frozen (p := ⟨w.heap.size, 1, none⟩) (by simp)).trans (by simp)
    have q2 : w1.cell? ⟨w.heap.size, 2, none⟩ = some (.string ⟨#[]⟩) := (hb1.cell (p := ⟨w.heap.size, 2, none⟩) (by simp)).trans (by simp)
    have f2 : w1.frozen? ⟨w.heap.size, 2, none⟩ = false := (hb1.frozen (p := ⟨w.heap.size, 2, none⟩) (by simp)).trans (by simp)
    have q3 : w1.cell? ⟨w.heap.size, 3, none⟩ = some (.string ⟨#[]⟩) := (hb1.cell (p := ⟨w.heap.size, 3, none⟩) (by simp)).trans (by simp)
    have f3 : w1.frozen? ⟨w.heap.size, 3, none⟩ = false := (hb1.frozen (p := ⟨w.heap.size, 3, none⟩) (by simp)).trans (by simp)
    have hl1 : w.heap.size < w1.heap.size := cell_lt q0
    have hne : ¬ w1.heap.size = w.heap.size := by omega
    clear hb1
    go_wp2_with (first | (go_at_call 39; refine (kind_tell id 7 (unhide HKD) _).mono ?_; rintro e w2 ⟨rfl, hw⟩; obtain rfl := hw.symm; clear hw) | fail)
    refine (rtbin_fail _ _ _ ((unhide HD).below ((Below.refl _ _).alloc (Nat.le_refl _) _)) m (unhide Hhg)).mono ?_
    rintro e w2 ⟨a, b2, rfl, hb2⟩
    have p0 : w2.cell? ⟨w1.heap.size, 0, none⟩ = some (.int .i64 id) := (hb2.cell (p := ⟨w1.heap.size, 0, none⟩) (by simp)).trans (by simp)
    have h0 : w2.frozen? ⟨w1.heap.size, 0, none⟩ = false := (hb2.frozen (p := ⟨w1.heap.size, 0, none⟩) (by simp)).trans (by simp)
    have p1 : w2.cell? ⟨w1.heap.size, 1, none⟩ = some (.int .i64 0) := (hb2.cell (p := ⟨w1.heap.size, 1, none⟩) (by simp)).trans (by simp)
    have h1 : w2.frozen? ⟨w1.heap.size, 1, none⟩ = false := (hb2.frozen (p := ⟨w1.heap.size, 1, none⟩) (by simp)).trans (by simp)
    have p2 : w2.cell? ⟨w1.heap.size, 2, none⟩ = some (.string ⟨#[]⟩) := (hb2.cell (p := ⟨w1.heap.size, 2, none⟩) (by simp)).trans (by simp)
    have h2 : w2.frozen? ⟨w1.heap.size, 2, none⟩ = false := (hb2.frozen (p := ⟨w1.heap.size, 2, none⟩) (by simp)).trans (by simp)
    have p3 : w2.cell? ⟨w1.heap.size, 3, none⟩ = some (.string ⟨#[]⟩) := (hb2.cell (p := ⟨w1.heap.size, 3, none⟩) (by simp)).trans (by simp)
    have h3 : w2.frozen? ⟨w1.heap.size, 3, none⟩ = false := (hb2.frozen (p := ⟨w1.heap.size, 3, none⟩) (by simp)).trans (by simp)
    have r0 : w2.cell? ⟨w.heap.size, 0, none⟩ = some (.int .i64 0) := (hb2.cell (p := ⟨w.heap.size, 0, none⟩) (by simp; omega)).trans ((World.cell?_alloc_lt _ _ ⟨w.heap.size, 0, none⟩ (by exact hl1)).trans q0)
    have r1 : w2.cell? ⟨w.heap.size, 1, none⟩ = some (.int .i64 0) := (hb2.cell (p := ⟨w.heap.size, 1, none⟩) (by simp; omega)).trans ((World.cell?_alloc_lt _ _ ⟨w.heap.size, 1, none⟩ (by exact hl1)).trans q1)
    have r2 : w2.cell? ⟨w.heap.size, 2, none⟩ = some (.string ⟨#[]⟩) := (hb2.cell (p := ⟨w.heap.size, 2, none⟩) (by simp; omega)).trans ((World.cell?_alloc_lt _ _ ⟨w.heap.size, 2, none⟩ (by exact hl1)).trans q2)
    have r3 : w2.cell? ⟨w.heap.size, 3, none⟩ = some (.string ⟨#[]⟩) := (hb2.cell (p := ⟨w.heap.size, 3, none⟩) (by simp; omega)).trans ((World.cell?_alloc_lt _ _ ⟨w.heap.size, 3, none⟩ (by exact hl1)).trans q3)
    have g0 : w2.frozen? ⟨w.heap.size, 0, none⟩ = false := (hb2.frozen (p := ⟨w.heap.size, 0, none⟩) (by simp; omega)).trans ((((Below.refl w1.heap.size w1).alloc (Nat.le_refl _) _).frozen (p := ⟨w.heap.size, 0, none⟩) hl1).trans f0)
    have g1 : w2.frozen? ⟨w.heap.size, 1, none⟩ = false := (hb2.frozen (p := ⟨w.heap.size, 1, none⟩) (by simp; omega)).trans ((((Below.refl w1.heap.size w1).alloc (Nat.le_refl _) _).frozen (p := ⟨w.heap.size, 1, none⟩) hl1).trans f1)
    have g2 : w2.frozen? ⟨w.heap.size, 2, none⟩ = false := (hb2.frozen (p := ⟨w.heap.size, 2, none⟩) (by simp; omega)).trans ((((Below.refl w1.heap.size w1).alloc (Nat.le_refl _) _).frozen (p := ⟨w.heap.size, 2, none⟩) hl1).trans f2)
    have g3 : w2.frozen? ⟨w.heap.size, 3, none⟩ = false := (hb2.frozen (p := ⟨w.heap.size, 3, none⟩) (by simp; omega)).trans ((((Below.refl w1.heap.size w1).alloc (Nat.le_refl _) _).frozen (p := ⟨w.heap.size, 3, none⟩) hl1).trans f3)
    have HB2 : Hid (Below w.heap.size w w2) := ((unhide HB1).alloc (unhide HB1).size _).trans (hb2.mono (by simp; omega))
    clear hb2
    go_wp2
    (try simp only [Exit.inBlock, Exit.then])
    refine bodyPost_ret (res_p2 (B := w.heap.size) (v0 := .int .i64 id) (v1 := .int .i64 0) (v2 := .string a) (v3 := .string ⟨#[]⟩) rfl rfl ?c0 ?c1 ?c2 ?c3) rfl ?_
    case c0 => simp (maxDischargeDepth := 12) [cell_set, r0]
    case c1 => simp (maxDischargeDepth := 12) [cell_set, r1]
    case c2 => simp (maxDischargeDepth := 12) [cell_set, r2]
    case c3 => simp (maxDischargeDepth := 12) [cell_set, r3]
    exact ⟨_, _, _, _, rfl, by have := unhide HB2; go_grown⟩
  · go_enter Tryd.func38, Tryd.ntmps38
    go_wp2_with fail
    refine (rvget_good _ l _ ((unhide HV).below ((Below.refl _ _).alloc (Nat.le_refl _) _)) id Q (unhide Hhv)).mono ?_
    rintro e w1 ⟨rfl, hb1⟩
    have HB1 : Hid (Below w.heap.size w w1) := ((Below.refl _ _).alloc (Nat.le_refl _) _).trans (hb1.mono (by simp))
    have HD : Hid (Byt w1 (.slice (some ⟨b, off + Q, none⟩) (n - Q) (cap - Q)) (l.drop Q)) := by
      show Byt _ _ _
      have := ((unhide HV).below (unhide HB1)).drop' Q (by omega)
      rw [if_neg hcQ] at this; exact this
    have q0 : w1.cell? ⟨w.heap.size, 0, none⟩ = some (.int .i64 0) := (hb1.cell (p := ⟨w.heap.size, 0, none⟩) (by simp)).trans (by simp)
    have f0 : w1.frozen? ⟨w.heap.size, 0, none⟩ = false := (hb1.frozen (p := ⟨w.heap.size, 0, none⟩) (by simp)).trans (by simp)
    have q1 : w1.cell? ⟨w.heap.size, 1, none⟩ = some (.int .i64 0) := (hb1.cell (p := ⟨w.heap.size, 1, none⟩) (by simp)).trans (by simp)
    have f1 : w1.frozen? ⟨w.heap.size, 1, none⟩ = false := (hb1.frozen (p := ⟨w.heap.size, 1, none⟩) (by simp)).trans (by simp)
    have q2 : w1.cell? ⟨w.heap.size, 2, none⟩ = some (.string ⟨#[]⟩) := (hb1.cell (p := ⟨w.heap.size, 2, none⟩) (by simp)).trans (by simp)
    have f2 : w1.frozen? ⟨w.heap.size, 2, none⟩ = false := (hb1.frozen (p := ⟨w.heap.size, 2, none⟩) (by simp)).trans (by simp)
    have q3 : w1.cell? ⟨w.heap.size, 3, none⟩ = some (.string ⟨#[]⟩) := (hb1.cell (p := ⟨w.heap.size, 3, none⟩) (by simp)).trans (by simp)
    have f3 : w1.frozen? ⟨w.heap.size, 3, none⟩ = false := (hb1.frozen (p := ⟨w.heap.size, 3, none⟩) (by simp)).trans (by simp)
    have hl1 : w.heap.size < w1.heap.size := cell_lt q0
    have hne : ¬ w1.heap.size = w.heap.size := by omega
    clear hb1
    go_wp2_with (first | (go_at_call 39; refine (kind_tell id 7 (unhide HKD) _).mono ?_; rintro e w2 ⟨rfl, hw⟩; obtain rfl := hw.symm; clear hw) | fail)
    refine (rtbin_fail _ _ _ ((unhide HD).below ((Below.refl _ _).alloc (Nat.le_refl _) _)) m (unhide Hhg)).mono ?_
    rintro e w2 ⟨a, b2, rfl, hb2⟩
    have p0 : w2.cell? ⟨w1.heap.size, 0, none⟩ = some (.int .i64 id) := (hb2.cell (p := ⟨w1.heap.size, 0, none⟩) (by simp)).trans (by simp)
    have h0 : w2.frozen? ⟨w1.heap.size, 0, none⟩ = false := (hb2.frozen (p := ⟨w1.heap.size, 0, none⟩) (by simp)).trans (by simp)
    have p1 : w2.cell? ⟨w1.heap.size, 1, none⟩ = some (.int .i64 0) := (hb2.cell (p := ⟨w1.heap.size, 1, none⟩) (by simp)).trans (by simp)
    have h1 : w2.frozen? ⟨w1.heap.size, 1, none⟩ = false := (hb2.frozen (p := ⟨w1.heap.size, 1, none⟩) (by simp)).trans (by simp)
    have p2 : w2.cell? ⟨w1.heap.size, 2, none⟩ = some (.string ⟨#[]⟩) := (hb2.cell (p := ⟨w1.heap.size, 2, none⟩) (by simp)).trans (by simp)
    have h2 : w2.frozen? ⟨w1.heap.size, 2, none⟩ = false := (hb2.frozen (p := ⟨w1.heap.size, 2, none⟩) (by simp)).trans (by simp)
    have p3 : w2.cell? ⟨w1.heap.size, 3, none⟩ = some (.string ⟨#[]⟩) := (hb2.cell (p := ⟨w1.heap.size, 3, none⟩) (by simp)).trans (by simp)
    have h3 : w2.frozen? ⟨w1.heap.size, 3, none⟩ = false := (hb2.frozen (p := ⟨w1.heap.size, 3, none⟩) (by simp)).trans (by simp)
    have r0 : w2.cell? ⟨w.heap.size, 0, none⟩ = some (.int .i64 0) := (hb2.cell (p := ⟨w.heap.size, 0, none⟩) (by simp; omega)).trans ((World.cell?_alloc_lt _ _ ⟨w.heap.size, 0, none⟩ (by exact hl1)).trans q0)
    have r1 : w2.cell? ⟨w.heap.size, 1, none⟩ = some (.int .i64 0) := (hb2.cell (p := ⟨w.heap.size, 1, none⟩) (by simp; omega)).trans ((World.cell?_alloc_lt _ _ ⟨w.heap.size, 1, none⟩ (by exact hl1)).trans q1)
    have r2 : w2.cell? ⟨w.heap.size, 2, none⟩ = some (.string ⟨#[]⟩) := (hb2.cell (p := ⟨w.heap.size, 2, none⟩) (by simp; omega)).trans ((World.cell?_alloc_lt _ _ ⟨w.heap.size, 2, none⟩ (by exact hl1)).trans q2)
    have r3 : w2.cell? ⟨w.heap.size, 3, none⟩ = some (.string ⟨#[]⟩) := (hb2.cell (p := ⟨w.heap.size, 3, none⟩) (by simp; omega)).trans ((World.cell?_alloc_lt _ _ ⟨w.heap.size, 3, none⟩ (by exact hl1)).trans q3)
    have g0 : w2.frozen? ⟨w.heap.size, 0, none⟩ = false := (hb2.frozen (p := ⟨w.heap.size, 0, none⟩) (by simp; omega)).trans ((((Below.refl w1.heap.size w1).alloc (Nat.le_refl _) _).frozen (p := ⟨w.heap.size, 0, none⟩) hl1).trans f0)
    have g1 : w2.frozen? ⟨w.heap.size, 1, none⟩ = false := (hb2.frozen (p := ⟨w.heap.size, 1, none⟩) (by simp; omega)).trans ((((Below.refl w1.heap.size w1).alloc (Nat.le_refl _) _).frozen (p := ⟨w.heap.size, 1, none⟩) hl1).trans f1)
    have g2 : w2.frozen? ⟨w.heap.size, 2, none⟩ = false := (hb2.frozen (p := ⟨w.heap.size, 2, none⟩) (by simp; omega)).trans ((((Below.refl w1.heap.size w1).alloc (Nat.le_refl _) _).frozen (p := ⟨w.heap.size, 2, none⟩) hl1).trans f2)
    have g3 : w2.frozen? ⟨w.heap.size, 3, none⟩ = false := (hb2.frozen (p := ⟨w.heap.size, 3, none⟩) (by simp; omega)).trans ((((Below.refl w1.heap.size w1).alloc (Nat.le_refl _) _).frozen (p := ⟨w.heap.size, 3, none⟩) hl1).trans f3)
    have HB2 : Hid (Below w.heap.size w w2) := ((unhide HB1).alloc (unhide HB1).size _).trans (hb2.mono (by simp; omega))
    clear hb2
    go_wp2
    (try simp only [Exit.inBlock, Exit.then])
    refine bodyPost_ret (res_p2 (B := w.heap.size) (v0 := .int .i64 id) (v1 := .int .i64 0) (v2 := .string a) (v3 := .string ⟨#[]⟩) rfl rfl ?c0 ?c1 ?c2 ?c3) rfl ?_
    case c0 => simp (maxDischargeDepth := 12) [cell_set, r0]
    case c1 => simp (maxDischargeDepth := 12) [cell_set, r1]
    case c2 => simp (maxDischargeDepth := 12) [cell_set, r2]
    case c3 => simp (maxDischargeDepth := 12) [cell_set, r3]
    exact ⟨_, _, _, _, rfl, by have := unhide HB2; go_grown⟩
set_option maxHeartbeats 2000000 in
theorem rg_var (v : Value) (l : List Int) (w : World) (h : Byt w v l) (id : Int) (Q : Nat) (hv : V.vget l = (id, (Q : Int), 0)) (hQ : 1 ≤ Q ∧ Q ≤ l.length) (hQ4 : Q ≤ 4) (hk : kd id = 5) (s : Int) (M : Nat) (hg : V.vget (l.drop Q) = (s, (M : Int), 0)) (hM : 1 ≤ M) (hM2 : Q + M ≤ l.length) : Calls Tryd.prog 38 #[v] w (RgOk (id, s, es, es) (Q + M : Nat) w) := by
  obtain ⟨b, off, cap, rfl, hc1, hc2⟩ := h.form1 (by omega)
  unfold maxLen at hc2
  have HV := hide h
  have Hhv := hide hv
  have HKD := hide hk
  have Hhg := hide hg
  clear h hv hk hg
  generalize hn : l.length = n at hc1 hQ HV hM2
  have HN := hide hn
  clear hn
  have hcQ : ¬ cap = Q := by omega
  go_enter Tryd.func38, Tryd.ntmps38
  go_wp2_with fail
  refine (rvget_good _ l _ ((unhide HV).below ((Below.refl _ _).alloc (Nat.le_refl _) _)) id Q (unhide Hhv)).mono ?_
  rintro e w1 ⟨rfl, hb1⟩
  have HB1 : Hid (Below w.heap.size w w1) := ((Below.refl _ _).alloc (Nat.le_refl _) _).trans (hb1.mono (by simp))
  have HD : Hid (Byt w1 (.slice (some ⟨b, off + Q, none⟩) (n - Q) (cap - Q)) (l.drop Q)) := by
    show Byt _ _ _
    have := ((unhide HV).below (unhide HB1)).drop' Q (by omega)
    rw [if_neg hcQ] at this; exact this
  have q0 : w1.cell? ⟨w.heap.size, 0, none⟩ = some (.int .i64 0) := (hb1.cell (p := ⟨w.heap.size, 0, none⟩) (by simp)).trans (by simp)
  have f0 : w1.frozen? ⟨w.heap.size, 0, none⟩ = false := (hb1.frozen (p := ⟨w.heap.size, 0, none⟩) (by simp)).trans (by simp)
  have q1 : w1.cell? ⟨w.heap.size, 1, none⟩ = some (.int .i64 0) := (hb1.cell (p := ⟨w.heap.size, 1, none⟩) (by simp)).trans (by simp)
  have f1 : w1.frozen? ⟨w.heap.size, 1, none⟩ = false := (hb1.frozen (p := ⟨w.heap.size, 1, none⟩) (by simp)).trans (by simp)
  have q2 : w1.cell? ⟨w.heap.size, 2, none⟩ = some (.string ⟨#[]⟩) := (hb1.cell (p := ⟨w.heap.size, 2, none⟩) (by simp)).trans (by simp)
  have f2 : w1.frozen? ⟨w.heap.size, 2, none⟩ = false := (hb1.frozen (p := ⟨w.heap.size, 2, none⟩) (by simp)).trans (by simp)
  have q3 : w1.cell? ⟨w.heap.size, 3, none⟩ = some (.string ⟨#[]⟩) := (hb1.cell (p := ⟨w.heap.size, 3, none⟩) (by simp)).trans (by simp)
  have f3 : w1.frozen? ⟨w.heap.size, 3, none⟩ = false := (hb1.frozen (p := ⟨w.heap.size, 3, none⟩) (by simp)).trans (by simp)
  have hl1 : w.heap.size < w1.heap.size := cell_lt q0
  have hne : ¬ w1.heap.size = w.heap.size := by omega
  clear hb1
  go_wp2_with (first | (go_at_call 39; refine (kind_tell id 5 (unhide HKD) _).mono ?_; rintro e w2 ⟨rfl, hw⟩; obtain rfl := hw.symm; clear hw) | fail)
  refine (rvget_good _ _ _ ((unhide HD).below ((Below.refl _ _).alloc (Nat.le_refl _) _)) s M (unhide Hhg)).mono ?_
  rintro e w2 ⟨rfl, hb2⟩
  have p0 : w2.cell? ⟨w1.heap.size, 0, none⟩ = some (.int .i64 id) := (hb2.cell (p := ⟨w1.heap.size, 0, none⟩) (by simp)).trans (by simp)
  have h0 : w2.frozen? ⟨w1.heap.size, 0, none⟩ = false := (hb2.frozen (p := ⟨w1.heap.size, 0, none⟩) (by simp)).trans (by simp)
  have p1 : w2.cell? ⟨w1.heap.size, 1, none⟩ = some (.int .i64 0) := (hb2.cell (p := ⟨w1.heap.size, 1, none⟩) (by simp)).trans (by simp)
  have h1 : w2.frozen? ⟨w1.heap.size, 1, none⟩ = false := (hb2.frozen (p := ⟨w1.heap.size, 1, none⟩) (by simp)).trans (by simp)
  have p2 : w2.cell? ⟨w1.heap.size, 2, none⟩ = some (.string ⟨#[]⟩) := (hb2.cell (p := ⟨w1.heap.size, 2, none⟩) (by simp)).trans (by simp)
  have h2 : w2.frozen? ⟨w1.heap.size, 2, none⟩ = false := (hb2.frozen (p := ⟨w1.heap.size, 2, none⟩) (by simp)).trans (by simp)
  have p3 : w2.cell? ⟨w1.heap.size, 3, none⟩ = some (.string ⟨#[]⟩) := (hb2.cell (p := ⟨w1.heap.size, 3, none⟩) (by simp)).trans (by simp)
  have h3 : w2.frozen? ⟨w1.heap.size, 3, none⟩ = false := (hb2.frozen (p := ⟨w1.heap.size, 3, none⟩) (by simp)).trans (by simp)
  have r0 : w2.cell? ⟨w.heap.size, 0, none⟩ = some (.int .i64 0) := (hb2.cell (p := ⟨w.heap.size, 0, none⟩) (by simp; omega)).trans ((World.cell?_alloc_lt _ _ ⟨w.heap.size, 0, none⟩ (by exact hl1)).trans q0)
  have r1 : w2.cell? ⟨w.heap.size, 1, none⟩ = some (.int .i64 0) := (hb2.cell (p := ⟨w.heap.size, 1, none⟩) (by simp; omega)).trans ((World.cell?_alloc_lt _ _ ⟨w.heap.size, 1, none⟩ (by exact hl1)).trans q1)
  have r2 : w2.cell? ⟨w.heap.size, 2, none⟩ = some (.string ⟨#[]⟩) := (hb2.cell (p := ⟨w.heap.size, 2, none⟩) (by simp; omega)).trans ((World.cell?_alloc_lt _ _ ⟨w.heap.size, 2, none⟩ (by exact hl1)).trans q2)
  have r3 : w2.cell? ⟨w.heap.size, 3, none⟩ = some (.string ⟨#[]⟩) := (hb2.cell (p := ⟨w.heap.size, 3, none⟩) (by simp; omega)).trans ((World.cell?_alloc_lt _ _ ⟨w.heap.size, 3, none⟩ (by exact hl1)).trans q3)
  have g0 : w2.frozen? ⟨w.heap.size, 0, none⟩ = false := (hb2.frozen (p := ⟨w.heap.size, 0, none⟩) (by simp; omega)).trans ((((Below.refl w1.heap.size w1).alloc (Nat.le_refl _) _).frozen (p := ⟨w.heap.size, 0, none⟩) hl1).trans f0)
  have g1 : w2.frozen? ⟨w.heap.size, 1, none⟩ = false := (hb2.frozen (p := ⟨w.heap.size, 1, none⟩) (by simp; omega)).trans ((((Below.refl w1.heap.size w1).alloc (Nat.le_refl _) _).frozen (p := ⟨w.heap.size, 1, none⟩) hl1).trans f1)
  have g2 : w2.frozen? ⟨w.heap.size, 2, none⟩ = false := (hb2.frozen (p := ⟨w.heap.size, 2, none⟩) (by simp; omega)).trans ((((Below.refl w1.heap.size w1).alloc (Nat.le_refl _) _).frozen (p := ⟨w.heap.size, 2, none⟩) hl1).trans f2)
  have g3 : w2.frozen? ⟨w.heap.size, 3, none⟩ = false := (hb2.frozen (p := ⟨w.heap.size, 3, none⟩) (by simp; omega)).trans ((((Below.refl w1.heap.size w1).alloc (Nat.le_refl _) _).frozen (p := ⟨w.heap.size, 3, none⟩) hl1).trans f3)
  have HB2 : Hid (Below w.heap.size w w2) := ((unhide HB1).alloc (unhide HB1).size _).trans (hb2.mono (by simp; omega))
  clear hb2
  go_wp2
  (try simp only [Exit.inBlock, Exit.then])
  refine bodyPost_ret (res_p2 (B := w.heap.size) (v0 := .int .i64 id) (v1 := .int .i64 s) (v2 := .string ⟨#[]⟩) (v3 := .string ⟨#[]⟩) rfl rfl ?c0 ?c1 ?c2 ?c3) rfl ?_
  case c0 => simp (maxDischargeDepth := 12) [cell_set, r0]
  case c1 => simp (maxDischargeDepth := 12) [cell_set, r1]
  case c2 => simp (maxDischargeDepth := 12) [cell_set, r2]
  case c3 => simp (maxDischargeDepth := 12) [cell_set, r3]
  exact ⟨by go_num, by have := unhide HB2; go_grown⟩
set_option maxHeartbeats 2000000 in
theorem rg_var_bad (v : Value) (l : List Int) (w : World) (h : Byt w v l) (id : Int) (Q : Nat) (hv : V.vget l = (id, (Q : Int), 0)) (hQ : 1 ≤ Q ∧ Q ≤ l.length) (hQ4 : Q ≤ 4) (hk : kd id = 5) (m : Int) (hg : (V.vget (l.drop Q)).2.2 = m) (hm : m ≠ 0) : Calls Tryd.prog 38 #[v] w (RgBad w) := by
  obtain ⟨b, off, cap, rfl, hc1, hc2⟩ := h.form1 (by omega)
  unfold maxLen at hc2
  have HV := hide h
  have Hhv := hide hv
  have HKD := hide hk
  have Hhg := hide hg
  clear h hv hk hg
  generalize hn : l.length = n at hc1 hQ HV 
  have HN := hide hn
  clear hn
  by_cases hcQ : cap = Q
  · have e1 : Q = cap := hcQ.symm
    clear hcQ
    subst e1
    have e2 : Q = n := by omega
    subst e2
    go_enter Tryd.func38, Tryd.ntmps38
    go_wp2_with fail
    refine (rvget_good _ l _ ((unhide HV).below ((Below.refl _ _).alloc (Nat.le_refl _) _)) id Q (unhide Hhv)).mono ?_
    rintro e w1 ⟨rfl, hb1⟩
    have HB1 : Hid (Below w.heap.size w w1) := ((Below.refl _ _).alloc (Nat.le_refl _) _).trans (hb1.mono (by simp))
    have HD : Hid (Byt w1 (.slice (some ⟨b, off, none⟩) 0 0) (l.drop Q)) := by
      show Byt _ _ _
      have := ((unhide HV).below (unhide HB1)).drop' Q (by omega)
      rw [if_pos rfl, Nat.sub_self] at this; exact this
    have q0 : w1.cell? ⟨w.heap.size, 0, none⟩ = some (.int .i64 0) := (hb1.cell (p := ⟨w.heap.size, 0, none⟩) (by simp)).trans (by simp)
    have f0 : w1.frozen? ⟨w.heap.size, 0, none⟩ = false := (hb1.frozen (p := ⟨w.heap.size, 0, none⟩) (by simp)).trans (by simp)
    have q1 : w1.cell? ⟨w.heap.size, 1, none⟩ = some (.int .i64 0) := (hb1.cell (p := ⟨w.heap.size, 1, none⟩) (by simp)).trans (by simp)
    have f1 : w1.frozen? ⟨w.heap.size, 1, none⟩ = false := (hb1.frozen (p := ⟨w.heap.size, 1, none⟩) (by simp)).trans (by simp)
    have q2 : w1.cell? ⟨w.heap.size, 2, none⟩ = some (.string ⟨#[]⟩) := (hb1.cell (p := ⟨w.heap.size, 2, none⟩) (by simp)).trans (by simp)
    have f2 : w1.frozen? ⟨w.heap.size, 2, none⟩ = false := (hb1.frozen (p := ⟨w.heap.size, 2, none⟩) (by simp)).trans (by simp)
    have q3 : w1.cell? ⟨w.heap.size, 3, none⟩ = some (.string ⟨#[]⟩) := (hb1.cell (p := ⟨w.heap.size, 3, none⟩) (by simp)).trans (by simp)
    have f3 : w1.frozen? ⟨w.heap.size, 3, none⟩ = false := (hb1.frozen (p := ⟨w.heap.size, 3, none⟩) (by simp)).trans (by simp)
    have hl1 : w.heap.size < w1.heap.size := cell_lt q0
    have hne : ¬ w1.heap.size = w.heap.size := by omega
    clear hb1
    go_wp2_with (first | (go_at_call 39; refine (kind_tell id 5 (unhide HKD) _).mono ?_; rintro e w2 ⟨rfl, hw⟩; obtain rfl := hw.symm; clear hw) | fail)
    refine (rvget_fail _ _ _ ((unhide HD).below ((Below.refl _ _).alloc (Nat.le_refl _) _)) m (unhide Hhg)).mono ?_
    rintro e w2 ⟨a, b2, rfl, hb2⟩
    have p0 : w2.cell? ⟨w1.heap.size, 0, none⟩ = some (.int .i64 id) := (hb2.cell (p := ⟨w1.heap.size, 0, none⟩) (by simp)).trans (by simp)
    have h0 : w2.frozen? ⟨w1.heap.size, 0, none⟩ = false := (hb2.frozen (p := ⟨w1.heap.size, 0, none⟩) (by simp)).trans (by simp)
    have p1 : w2.cell? ⟨w1.heap.size, 1, none⟩ = some (.int .i64 0) := (hb2.cell (p := ⟨w1.heap.size, 1, none⟩) (by simp)).trans (by simp)
    have h1 : w2.frozen? ⟨w1.heap.size, 1, none⟩ = false := (hb2.frozen (p := ⟨w1.heap.size, 1, none⟩) (by simp)).trans (by simp)
    have p2 : w2.cell? ⟨w1.heap.size, 2, none⟩ = some (.string ⟨#[]⟩) := (hb2.cell (p := ⟨w1.heap.size, 2, none⟩) (by simp)).trans (by simp)
    have h2 : w2.frozen? ⟨w1.heap.size, 2, none⟩ = false := (hb2.frozen (p := ⟨w1.heap.size, 2, none⟩) (by simp)).trans (by simp)
    have p3 : w2.cell? ⟨w1.heap.size, 3, none⟩ = some (.string ⟨#[]⟩) := (hb2.cell (p := ⟨w1.heap.size, 3, none⟩) (by simp)).trans (by simp)
    have h3 : w2.frozen? ⟨w1.heap.size, 3, none⟩ = false := (hb2.frozen (p := ⟨w1.heap.size, 3, none⟩) (by simp)).trans (by simp)
    have r0 : w2.cell? ⟨w.heap.size, 0, none⟩ = some (.int .i64 0) := (hb2.cell (p := ⟨w.heap.size, 0, none⟩) (by simp; omega)).trans ((World.cell?_alloc_lt _ _ ⟨w.heap.size, 0, none⟩ (by exact hl1)).trans q0)
    have r1 : w2.cell? ⟨w.heap.size, 1, none⟩ = some (.int .i64 0) := (hb2.cell (p := ⟨w.heap.size, 1, none⟩) (by simp; omega)).trans ((World.cell?_alloc_lt _ _ ⟨w.heap.size, 1, none⟩ (by exact hl1)).trans q1)
    have r2 : w2.cell? ⟨w.heap.size, 2, none⟩ = some (.string ⟨#[]⟩) := (hb2.cell (p := ⟨w.heap.size, 2, none⟩) (by simp; omega)).trans ((World.cell?_alloc_lt _ _ ⟨w.heap.size, 2, none⟩ (by exact hl1)).trans q2)
    have r3 : w2.cell? ⟨w.heap.size, 3, none⟩ = some (.string ⟨#[]⟩) := (hb2.cell (p := ⟨w.heap.size, 3, none⟩) (by simp; omega)).trans ((World.cell?_alloc_lt _ _ ⟨w.heap.size, 3, none⟩ (by exact hl1)).trans q3)
    have g0 : w2.frozen? ⟨w.heap.size, 0, none⟩ = false := (hb2.frozen (p := ⟨w.heap.size, 0, none⟩) (by simp; omega)).trans ((((Below.refl w1.heap.size w1).alloc (Nat.le_refl _) _).frozen (p := ⟨w.heap.size, 0, none⟩) hl1).trans f0)
    have g1 : w2.frozen? ⟨w.heap.size, 1, none⟩ = false := (hb2.frozen (p := ⟨w.heap.size, 1, none⟩) (by simp; omega)).trans ((((Below.refl w1.heap.size w1).alloc (Nat.le_refl _) _).frozen (p := ⟨w.heap.size, 1, none⟩) hl1).trans f1)
    have g2 : w2.frozen? ⟨w.heap.size, 2, none⟩ = false := (hb2.frozen (p := ⟨w.heap.size, 2, none⟩) (by simp; omega)).trans ((((Below.refl w1.heap.size w1).alloc (Nat.le_refl _) _).frozen (p := ⟨w.heap.size, 2, none⟩) hl1).trans f2)
    have g3 : w2.frozen? ⟨w.heap.size, 3, none⟩ = false := (hb2.frozen (p := ⟨w.heap.size, 3, none⟩) (by simp; omega)).trans ((((Below.refl w1.heap.size w1).alloc (Nat.le_refl _) _).frozen (p := ⟨w.heap.size, 3, none⟩) hl1).trans f3)
    have HB2 : Hid (Below w.heap.size w w2) := ((unhide HB1).alloc (unhide HB1).size _).trans (hb2.mono (by simp; omega))
    clear hb2
    go_wp2
    (try simp only [Exit.inBlock, Exit.then])
    refine bodyPost_ret (res_p2 (B := w.heap.size) (v0 := .int .i64 id) (v1 := .int .i64 a) (v2 := .string ⟨#[]⟩) (v3 := .string ⟨#[]⟩) rfl rfl ?c0 ?c1 ?c2 ?c3) rfl ?_
    case c0 => simp (maxDischargeDepth := 12) [cell_set, r0]
    case c1 => simp (maxDischargeDepth := 12) [cell_set, r1]
    case c2 => simp (maxDischargeDepth := 12) [cell_set, r2]
    case c3 => simp (maxDischargeDepth := 12) [cell_set, r3]
    exact ⟨_, _, _, _, rfl, by have := unhide HB2; go_grown⟩
  · go_enter Tryd.func38, Tryd.ntmps38
    go_wp2_with fail
    refine (rvget_good _ l _ ((unhide HV).below ((Below.refl _ _).alloc (Nat.le_refl _) _)) id Q (unhide Hhv)).mono ?_
    rintro e w1 ⟨rfl, hb1⟩
    have HB1 : Hid (Below w.heap.size w w1) := ((Below.refl _ _).alloc (Nat.le_refl _) _).trans (hb1.mono (by simp))
    have HD : Hid (Byt w1 (.slice (some ⟨b, off + Q, none⟩) (n - Q) (cap - Q)) (l.drop Q)) := by
      show Byt _ _ _
      have := ((unhide HV).below (unhide HB1)).drop' Q (by omega)
      rw [if_neg hcQ] at this; exact this
    have q0 : w1.cell? ⟨w.heap.size, 0, none⟩ = some (.int .i64 0) := (hb1.cell (p := ⟨w.heap.size, 0, none⟩) (by simp)).trans (by simp)
    have f0 : w1.frozen? ⟨w.heap.size, 0, none⟩ = false := (hb1.frozen (p := ⟨w.heap.size, 0, none⟩) (by simp)).trans (by simp)
    have q1 : w1.cell? ⟨w.heap.size, 1, none⟩ = some (.int .i64 0) := (hb1.cell (p := ⟨w.heap.size, 1, none⟩) (by simp)).trans (by simp)
    have f1 : w1.frozen? ⟨w.heap.size, 1, none⟩ = false := (hb1.frozen (p := ⟨w.heap.size, 1, none⟩) (by simp)).trans (by simp)
    have q2 : w1.cell? ⟨w.heap.size, 2, none⟩ = some (.string ⟨#[]⟩) := (hb1.cell (p := ⟨w.heap.size, 2, none⟩) (by simp)).trans (by simp)
    have f2 : w1.frozen? ⟨w.heap.size, 2, none⟩ = false := (hb1.frozen (p := ⟨w.heap.size, 2, none⟩) (by simp)).trans (by simp)
    have q3 : w1.cell? ⟨w.heap.size, 3, none⟩ = some (.string ⟨#[]⟩) := (hb1.cell (p := ⟨w.heap.size, 3, none⟩) (by simp)).trans (by simp)
    have f3 : w1.frozen? ⟨w.heap.size, 3, none⟩ = false := (hb1.frozen (p := ⟨w.heap.size, 3, none⟩) (by simp)).trans (by simp)
    have hl1 : w.heap.size < w1.heap.size := cell_lt q0
    have hne : ¬ w1.heap.size = w.heap.size := by omega
    clear hb1
    go_wp2_with (first | (go_at_call 39; refine (kind_tell id 5 (unhide HKD) _).mono ?_; rintro e w2 ⟨rfl, hw⟩; obtain rfl := hw.symm; clear hw) | fail)
    refine (rvget_fail _ _ _ ((unhide HD).below ((Below.refl _ _).alloc (Nat.le_refl _) _)) m (unhide Hhg)).mono ?_
    rintro e w2 ⟨a, b2, rfl, hb2⟩
    have p0 : w2.cell? ⟨w1.heap.size, 0, none⟩ = some (.int .i64 id) := (hb2.cell (p := ⟨w1.heap.size, 0, none⟩) (by simp)).trans (by simp)
    have h0 : w2.frozen? ⟨w1.heap.size, 0, none⟩ = false := (hb2.frozen (p := ⟨w1.heap.size, 0, none⟩) (by simp)).trans (by simp)
    have p1 : w2.cell? ⟨w1.heap.size, 1, none⟩ = some (.int .i64 0) := (hb2.cell (p := ⟨w1.heap.size, 1, none⟩) (by simp)).trans (by simp)
    have h1 : w2.frozen? ⟨w1.heap.size, 1, none⟩ = false := (hb2.frozen (p := ⟨w1.heap.size, 1, none⟩) (by simp)).trans (by simp)
    have p2 : w2.cell? ⟨w1.heap.size, 2, none⟩ = some (.string ⟨#[]⟩) := (hb2.cell (p := ⟨w1.heap.size, 2, none⟩) (by simp)).trans (by simp)
    have h2 : w2.frozen? ⟨w1.heap.size, 2, none⟩ = false := (hb2.frozen (p := ⟨w1.heap.size, 2, none⟩) (by simp)).trans (by simp)
    have p3 : w2.cell? ⟨w1.heap.size, 3, none⟩ = some (.string ⟨#[]⟩) := (hb2.cell (p := ⟨w1.heap.size, 3, none⟩) (by simp)).trans (by simp)
    have h3 : w2.frozen? ⟨w1.heap.size, 3, none⟩ = false := (hb2.frozen (p := ⟨w1.heap.size, 3, none⟩) (by simp)).trans (by simp)
    have r0 : w2.cell? ⟨w.heap.size, 0, none⟩ = some (.int .i64 0) := (hb2.cell (p := ⟨w.heap.size, 0, none⟩) (by simp; omega)).trans ((World.cell?_alloc_lt _ _ ⟨w.heap.size, 0, none⟩ (by exact hl1)).trans q0)
    have r1 : w2.cell? ⟨w.heap.size, 1, none⟩ = some (.int .i64 0) := (hb2.cell (p := ⟨w.heap.size, 1, none⟩) (by simp; omega)).trans ((World.cell?_alloc_lt _ _ ⟨w.heap.size, 1, none⟩ (by exact hl1)).trans q1)
    have r2 : w2.cell? ⟨w.heap.size, 2, none⟩ = some (.string ⟨#[]⟩) := (hb2.cell (p := ⟨w.heap.size, 2, none⟩) (by simp; omega)).trans ((World.cell?_alloc_lt _ _ ⟨w.heap.size, 2, none⟩ (by exact hl1)).trans q2)
    have r3 : w2.cell? ⟨w.heap.size, 3, none⟩ = some (.string ⟨#[]⟩) := (hb2.cell (p := ⟨w.heap.size, 3, none⟩) (by simp; omega)).trans ((World.cell?_alloc_lt _ _ ⟨w.heap.size, 3, none⟩ (by exact hl1)).trans q3)
    have g0 : w2.frozen? ⟨w.heap.size, 0, none⟩ = false := (hb2.frozen (p := ⟨w.heap.size, 0, none⟩) (by simp; omega)).trans ((((Below.refl w1.heap.size w1).alloc (Nat.le_refl _) _).frozen (p := ⟨w.heap.size, 0, none⟩) hl1).trans f0)
    have g1 : w2.frozen? ⟨w.heap.size, 1, none⟩ = false := (hb2.frozen (p := ⟨w.heap.size, 1, none⟩) (by simp; omega)).trans ((((Below.refl w1.heap.size w1).alloc (Nat.le_refl _) _).frozen (p := ⟨w.heap.size, 1, none⟩) hl1).trans f1)
    have g2 : w2.frozen? ⟨w.heap.size, 2, none⟩ = false := (hb2.frozen (p := ⟨w.heap.size, 2, none⟩) (by simp; omega)).trans ((((Below.refl w1.heap.size w1).alloc (Nat.le_refl _) _).frozen (p := ⟨w.heap.size, 2, none⟩) hl1).trans f2)
    have g3 : w2.frozen? ⟨w.heap.size, 3, none⟩ = false := (hb2.frozen (p := ⟨w.heap.size, 3, none⟩) (by simp; omega)).trans ((((Below.refl w1.heap.size w1).alloc (Nat.le_refl _) _).frozen (p := ⟨w.heap.size, 3, none⟩) hl1).trans f3)
    have HB2 : Hid (Below w.heap.size w w2) := ((unhide HB1).alloc (unhide HB1).size _).trans (hb2.mono (by simp; omega))
    clear hb2
    go_wp2
    (try simp only [Exit.inBlock, Exit.then])
    refine bodyPost_ret (res_p2 (B := w.heap.size) (v0 := .int .i64 id) (v1 := .int .i64 a) (v2 := .string ⟨#[]⟩) (v3 := .string ⟨#[]⟩) rfl rfl ?c0 ?c1 ?c2 ?c3) rfl ?_
    case c0 => simp (maxDischargeDepth := 12) [cell_set, r0]
    case c1 => simp (maxDischargeDepth := 12) [cell_set, r1]
    case c2 => simp (maxDischargeDepth := 12) [cell_set, r2]
    case c3 => simp (maxDischargeDepth := 12) [cell_set, r3]
    exact ⟨_, _, _, _, rfl, by have := unhide HB2; go_grown⟩
set_option maxHeartbeats 2000000 in
theorem rg_none (v : Value) (l : List Int) (w : World) (h : Byt w v l) (id : Int) (Q : Nat) (hv : V.vget l = (id, (Q : Int), 0)) (hQ : 1 ≤ Q ∧ Q ≤ l.length) (hQ4 : Q ≤ 4) (hk : kd id = 0) : Calls Tryd.prog 38 #[v] w (RgBad w) := by
  obtain ⟨b, off, cap, rfl, hc1, hc2⟩ := h.form1 (by omega)
  unfold maxLen at hc2
  have HV := hide h
  have Hhv := hide hv
  have HKD := hide hk
  clear h hv hk 
  generalize hn : l.length = n at hc1 hQ HV 
  have HN := hide hn
  clear hn
  by_cases hcQ : cap = Q
  · have e1 : Q = cap := hcQ.symm
    clear hcQ
    subst e1
    have e2 : Q = n := by omega
    subst e2
    go_enter Tryd.func38, Tryd.ntmps38
    go_wp2_with fail
    refine (rvget_good _ l _ ((unhide HV).below ((Below.refl _ _).alloc (Nat.le_refl _) _)) id Q (unhide Hhv)).mono ?_
    rintro e w1 ⟨rfl, hb1⟩
    have HB1 : Hid (Below w.heap.size w w1) := ((Below.refl _ _).alloc (Nat.le_refl _) _).trans (hb1.mono (by simp))
    have HD : Hid (Byt w1 (.slice (some ⟨b, off, none⟩) 0 0) (l.drop Q)) := by
      show Byt _ _ _
      have := ((unhide HV).below (unhide HB1)).drop' Q (by omega)
      rw [if_pos rfl, Nat.sub_self] at this; exact this
    have q0 : w1.cell? ⟨w.heap.size, 0, none⟩ = some (.int .i64 0) := (hb1.cell (p := ⟨w.heap.size, 0, none⟩) (by simp)).trans (by simp)
    have f0 : w1.frozen? ⟨w.heap.size, 0, none⟩ = false := (hb1.frozen (p := ⟨w.heap.size, 0, none⟩) (by simp)).trans (by simp)
    have q1 : w1.cell? ⟨w.heap.size, 1, none⟩ = some (.int .i64 0) := (hb1.cell (p := ⟨w.heap.size, 1, none⟩) (by simp)).trans (by simp)
    have f1 : w1.frozen? ⟨w.heap.size, 1, none⟩ = false := (hb1.frozen (p := ⟨w.heap.size, 1, none⟩) (by simp)).trans (by simp)
    have q2 : w1.cell? ⟨w.heap.size, 2, none⟩ = some (.string ⟨#[]⟩) := (hb1.cell (p := ⟨w.heap.size, 2, none⟩) (by simp)).trans (by simp)
    have f2 : w1.frozen? ⟨w.heap.size, 2, none⟩ = false := (hb1.frozen (p := ⟨w.heap.size, 2, none⟩) (by simp)).trans (by simp)
    have q3 : w1.cell? ⟨w.heap.size, 3, none⟩ = some (.string ⟨#[]⟩) := (hb1.cell (p := ⟨w.heap.size, 3, none⟩) (by simp)).trans (by simp)
    have f3 : w1.frozen? ⟨w.heap.size, 3, none⟩ = false := (hb1.frozen (p := ⟨w.heap.size, 3, none⟩) (by simp)).trans (by simp)
    have hl1 : w.heap.size < w1.heap.size := cell_lt q0
    have hne : ¬ w1.heap.size = w.heap.size := by omega
    clear hb1
    go_wp2_with (first | (go_at_call 39; refine (kind_tell id 0 (unhide HKD) _).mono ?_; rintro e w2 ⟨rfl, hw⟩; obtain rfl := hw.symm; clear hw) | fail)
    (try simp only [Exit.inBlock, Exit.then])
    refine bodyPost_ret (res_p2 (B := w.heap.size) (v0 := .int .i64 id) (v1 := .int .i64 0) (v2 := .string ⟨#[]⟩) (v3 := .string ⟨#[]⟩) rfl rfl ?c0 ?c1 ?c2 ?c3) rfl ?_
    case c0 => rw [World.cell?_alloc_lt _ _ _ (by simpa using hl1)]; simp (maxDischargeDepth := 12) [cell_set, q0]
    case c1 => rw [World.cell?_alloc_lt _ _ _ (by simpa using hl1)]; simp (maxDischargeDepth := 12) [cell_set, q1]
    case c2 => rw [World.cell?_alloc_lt _ _ _ (by simpa using hl1)]; simp (maxDischargeDepth := 12) [cell_set, q2]
    case c3 => rw [World.cell?_alloc_lt _ _ _ (by simpa using hl1)]; simp (maxDischargeDepth := 12) [cell_set, q3]
    exact ⟨_, _, _, _, rfl, by have := unhide HB1; go_grown⟩
  · go_enter Tryd.func38, Tryd.ntmps38
    go_wp2_with fail
    refine (rvget_good _ l _ ((unhide HV).below ((Below.refl _ _).alloc (Nat.le_refl _) _)) id Q (unhide Hhv)).mono ?_
    rintro e w1 ⟨rfl, hb1⟩
    have HB1 : Hid (Below w.heap.size w w1) := ((Below.refl _ _).alloc (Nat.le_refl _) _).trans (hb1.mono (by simp))
    have HD : Hid (Byt w1 (.slice (some ⟨b, off + Q, none⟩) (n - Q) (cap - Q)) (l.drop Q)) := by
      show Byt _ _ _
      have := ((unhide HV).below (unhide HB1)).drop' Q (by omega)
      rw [if_neg hcQ] at this; exact this
    have q0 : w1.cell? ⟨w.heap.size, 0, none⟩ = some (.int .i64 0) := (hb1.cell (p := ⟨w.heap.size, 0, none⟩) (by simp)).trans (by simp)
    have f0 : w1.frozen? ⟨w.heap.size, 0, none⟩ = false := (hb1.frozen (p := ⟨w.heap.size, 0, none⟩) (by simp)).trans (by simp)
    have q1 : w1.cell? ⟨w.heap.size, 1, none⟩ = some (.int .i64 0) := (hb1.cell (p := ⟨w.heap.size, 1, none⟩) (by simp)).trans (by simp)
    have f1 : w1.frozen? ⟨w.heap.size, 1, none⟩ = false := (hb1.frozen (p := ⟨w.heap.size, 1, none⟩) (by simp)).trans (by simp)
    have q2 : w1.cell? ⟨w.heap.size, 2, none⟩ = some (.string ⟨#[]⟩) := (hb1.cell (p := ⟨w.heap.size, 2, none⟩) (by simp)).trans (by simp)
    have f2 : w1.frozen? ⟨w.heap.size, 2, none⟩ = false := (hb1.frozen (p := ⟨w.heap.size, 2, none⟩) (by simp)).trans (by simp)
    have q3 : w1.cell? ⟨w.heap.size, 3, none⟩ = some (.string ⟨#[]⟩) := (hb1.cell (p := ⟨w.heap.size, 3, none⟩) (by simp)).trans (by simp)
    have f3 : w1.frozen? ⟨w.heap.size, 3, none⟩ = false := (hb1.frozen (p := ⟨w.heap.size, 3, none⟩) (by simp)).trans (by simp)
    have hl1 : w.heap.size < w1.heap.size := cell_lt q0
    have hne : ¬ w1.heap.size = w.heap.size := by omega
    clear hb1
    go_wp2_with (first | (go_at_call 39; refine (kind_tell id 0 (unhide HKD) _).mono ?_; rintro e w2 ⟨rfl, hw⟩; obtain rfl := hw.symm; clear hw) | fail)
    (try simp only [Exit.inBlock, Exit.then])
    refine bodyPost_ret (res_p2 (B := w.heap.size) (v0 := .int .i64 id) (v1 := .int .i64 0) (v2 := .string ⟨#[]⟩) (v3 := .string ⟨#[]⟩) rfl rfl ?c0 ?c1 ?c2 ?c3) rfl ?_
    case c0 => rw [World.cell?_alloc_lt _ _ _ (by simpa using hl1)]; simp (maxDischargeDepth := 12) [cell_set, q0]
    case c1 => rw [World.cell?_alloc_lt _ _ _ (by simpa using hl1)]; simp (maxDischargeDepth := 12) [cell_set, q1]
    case c2 => rw [World.cell?_alloc_lt _ _ _ (by simpa using hl1)]; simp (maxDischargeDepth := 12) [cell_set, q2]
    case c3 => rw [World.cell?_alloc_lt _ _ _ (by simpa using hl1)]; simp (maxDischargeDepth := 12) [cell_set, q3]
    exact ⟨_, _, _, _, rfl, by have := unhide HB1; go_grown⟩
set_option maxHeartbeats 2000000 in
theorem rg_num1 (v : Value) (l : List Int) (w : World) (h : Byt w v l) (id : Int) (Q : Nat) (hv : V.vget l = (id, (Q : Int), 0)) (hQ : 1 ≤ Q ∧ Q ≤ l.length) (hQ4 : Q ≤ 4) (hk : kd id = 1) (hM2 : Q + 1 ≤ l.length) : Calls Tryd.prog 38 #[v] w (RgOk (id, be 1 (l.drop Q), es, es) (Q + 1 : Nat) w) := by
  obtain ⟨x0, hx0⟩ : ∃ x, (l.drop Q).getD 0 0 = x := ⟨_, rfl⟩
  have r0 := Rng.drop h.range Q 0
  rw [hx0] at r0
  have hbe : be 1 (l.drop Q) = x0 := by unfold be; simp only [hx0]; simp
  obtain ⟨b, off, cap, rfl, hc1, hc2⟩ := h.form1 (by omega)
  unfold maxLen at hc2
  have HCC : Hid (∀ W : World, Byt W (.slice (some ⟨b, off + Q, none⟩) (l.length - Q) (cap - Q)) (l.drop Q) → ∀ j, j < 1 → W.cell? ⟨b, off + Q + j, none⟩ = some (.int .u8 ((l.drop Q).getD j 0))) := fun W hW j hj => by
    obtain ⟨ao', cap', e, _, _, hcase⟩ := hW
    simp only [Value.slice.injEq] at e
    obtain ⟨rfl, _, _⟩ := e
    rcases hcase with hc | ⟨b', off', e', hc⟩
    · have := congrArg List.length hc
      simp at this
      omega
    · simp only [Option.some.injEq, Addr.mk.injEq] at e'
      obtain ⟨rfl, rfl, _⟩ := e'
      exact hc j (by rw [List.length_drop]; omega)
  have HCB : Hid (∀ W : World, Byt W (.slice (some ⟨b, off + Q, none⟩) (l.length - Q) (cap - Q)) (l.drop Q) → b < W.heap.size) := fun W hW => cell_lt ((unhide HCC) W hW 0 (by omega))
  have HX0 := hide hx0
  clear hx0
  have HBE := hide hbe
  clear hbe
  have HV := hide h
  have Hhv := hide hv
  have HKD := hide hk
  clear h hv hk 
  generalize hn : l.length = n at hc1 hQ HV hM2 HCC HCB
  have HN := hide hn
  clear hn
  have hcQ : ¬ cap = Q := by omega
  go_enter Tryd.func38, Tryd.ntmps38
  go_wp2_with fail
  refine (rvget_good _ l _ ((unhide HV).below ((Below.refl _ _).alloc (Nat.le_refl _) _)) id Q (unhide Hhv)).mono ?_
  rintro e w1 ⟨rfl, hb1⟩
  have HB1 : Hid (Below w.heap.size w w1) := ((Below.refl _ _).alloc (Nat.le_refl _) _).trans (hb1.mono (by simp))
  have HD : Hid (Byt w1 (.slice (some ⟨b, off + Q, none⟩) (n - Q) (cap - Q)) (l.drop Q)) := by
    show Byt _ _ _
    have := ((unhide HV).below (unhide HB1)).drop' Q (by omega)
    rw [if_neg hcQ] at this; exact this
  have q0 : w1.cell? ⟨w.heap.size, 0, none⟩ = some (.int .i64 0) := (hb1.cell (p := ⟨w.heap.size, 0, none⟩) (by simp)).trans (by simp)
  have f0 : w1.frozen? ⟨w.heap.size, 0, none⟩ = false := (hb1.frozen (p := ⟨w.heap.size, 0, none⟩) (by simp)).trans (by simp)
  have q1 : w1.cell? ⟨w.heap.size, 1, none⟩ = some (.int .i64 0) := (hb1.cell (p := ⟨w.heap.size, 1, none⟩) (by simp)).trans (by simp)
  have f1 : w1.frozen? ⟨w.heap.size, 1, none⟩ = false := (hb1.frozen (p := ⟨w.heap.size, 1, none⟩) (by simp)).trans (by simp)
  have q2 : w1.cell? ⟨w.heap.size, 2, none⟩ = some (.string ⟨#[]⟩) := (hb1.cell (p := ⟨w.heap.size, 2, none⟩) (by simp)).trans (by simp)
  have f2 : w1.frozen? ⟨w.heap.size, 2, none⟩ = false := (hb1.frozen (p := ⟨w.heap.size, 2, none⟩) (by simp)).trans (by simp)
  have q3 : w1.cell? ⟨w.heap.size, 3, none⟩ = some (.string ⟨#[]⟩) := (hb1.cell (p := ⟨w.heap.size, 3, none⟩) (by simp)).trans (by simp)
  have f3 : w1.frozen? ⟨w.heap.size, 3, none⟩ = false := (hb1.frozen (p := ⟨w.heap.size, 3, none⟩) (by simp)).trans (by simp)
  have hl1 : w.heap.size < w1.heap.size := cell_lt q0
  have hne : ¬ w1.heap.size = w.heap.size := by omega
  clear hb1
  have hbl : b < w1.heap.size := (unhide HCB) w1 (unhide HD)
  have y0 : w1.cell? ⟨b, off + Q, none⟩ = some (.int .u8 x0) := by
    have := (unhide HCC) w1 (unhide HD) 0 (by omega)
    rw [unhide HX0] at this
    exact this
  have ix0 : ((0 : Nat) : Int) < ((n - Q : Nat) : Int) := by omega
  have iy0 : (0 : Int) < ((n - Q : Nat) : Int) := by omega
  have iz0 : 0 < n - Q := by omega
  have hnb : ¬ b = w1.heap.size := by omega
  have e0 : bits .or .i64 0 x0 = x0 := V.or_zero x0 r0.1 (by omega)
  go_wp2_with (first | (go_at_call 39; refine (kind_tell id 1 (unhide HKD) _).mono ?_; rintro e w2 ⟨rfl, hw⟩; obtain rfl := hw.symm; clear hw) | fail)
  refine wp_loop_rounds 2 ?_
  rw [rounds_succ]
  go_wp2_with fail
  refine wp_region_noPanic ?_
  refine wp_region_held_drew (S := (fun w' => w'.cell? ⟨b, off + Q, none⟩ = some (.int .u8 x0))) (by kernel_rfl) (by go_keep) (fun hHeld => ?_)
  refine wpAnyH_take (i := 0) (oi := { dst := some 44, op := Op.fieldAddr 49 (Operand.tmp 7) 1, type := 0, pos := "dovecoteref3.go:179", after := #[], guard := none }) (v := ?v1) rfl (by kernel_rfl) (by kernel_rfl) (by kernel_rfl) (fun _ _ _ h => h) (Or.inl ⟨by rfl, ?hy1⟩) (by assumption) ?rest1
  case hy1 => (intro w hSw; (try dsimp only at hSw); go_simp; (try rw [if_pos (by omega)]); (try with_reducible rfl))
  simp only [Act.put, List.setIfInBounds_toArray, List.set_cons_zero, List.set_cons_succ]
  refine wpAnyH_take (i := 3) (oi := { dst := some 47, op := Op.move (Operand.tmp 0), type := 24, pos := "dovecoteref3.go:179", after := #[], guard := none }) (v := ?v2) rfl (by kernel_rfl) (by kernel_rfl) (by kernel_rfl) (fun _ _ _ h => h) (Or.inl ⟨by rfl, ?hy2⟩) (by assumption) ?rest2
  case hy2 => (intro w hSw; (try dsimp only at hSw); go_simp; (try rw [if_pos (by omega)]); (try with_reducible rfl))
  simp only [Act.put, List.setIfInBounds_toArray, List.set_cons_zero, List.set_cons_succ]
  refine wpAnyH_take (i := 4) (oi := { dst := some 48, op := Op.move (Operand.tmp 9), type := 3, pos := "dovecoteref3.go:179", after := #[], guard := none }) (v := ?v3) rfl (by kernel_rfl) (by kernel_rfl) (by kernel_rfl) (fun _ _ _ h => h) (Or.inl ⟨by rfl, ?hy3⟩) (by assumption) ?rest3
  case hy3 => (intro w hSw; (try dsimp only at hSw); go_simp; (try rw [if_pos (by omega)]); (try with_reducible rfl))
  simp only [Act.put, List.setIfInBounds_toArray, List.set_cons_zero, List.set_cons_succ]
  refine wpAnyH_take (i := 5) (oi := { dst := some 49, op := Op.indexAddr 24 (Operand.tmp 47) (Operand.tmp 48), type := 0, pos := "dovecoteref3.go:179", after := #[{ on := 3, ground := Ground.data }, { on := 4, ground := Ground.data }], guard := none }) (v := ?v4) rfl (by kernel_rfl) (by kernel_rfl) (by kernel_rfl) (fun _ _ _ h => h) (Or.inl ⟨by rfl, ?hy4⟩) (by assumption) ?rest4
  case hy4 => (intro w hSw; (try dsimp only at hSw); go_simp; (try rw [if_pos (by omega)]); (try with_reducible rfl))
  simp only [Act.put, List.setIfInBounds_toArray, List.set_cons_zero, List.set_cons_succ]
  refine wpAnyH_take (i := 6) (oi := { dst := some 50, op := Op.load 5 (Operand.tmp 49), type := 5, pos := "dovecoteref3.go:179", after := #[{ on := 5, ground := Ground.data }], guard := none }) (v := ?v5) rfl (by kernel_rfl) (by kernel_rfl) (by kernel_rfl) (fun _ _ _ h => h) (Or.inl ⟨by rfl, ?hy5⟩) (by assumption) ?rest5
  case hy5 => (intro w hSw; (try dsimp only at hSw); go_simp; (try rw [if_pos (by omega)]); (try with_reducible rfl))
  simp only [Act.put, List.setIfInBounds_toArray, List.set_cons_zero, List.set_cons_succ]
  refine wpAnyH_take (i := 7) (oi := { dst := some 51, op := Op.convert 5 3 (Operand.tmp 50), type := 3, pos := "dovecoteref3.go:179", after := #[{ on := 6, ground := Ground.data }], guard := none }) (v := ?v6) rfl (by kernel_rfl) (by kernel_rfl) (by kernel_rfl) (fun _ _ _ h => h) (Or.inl ⟨by rfl, ?hy6⟩) (by assumption) ?rest6
  case hy6 => (intro w hSw; (try dsimp only at hSw); go_simp; (try rw [if_pos (by omega)]); (try with_reducible rfl))
  simp only [Act.put, List.setIfInBounds_toArray, List.set_cons_zero, List.set_cons_succ]
  refine wpAnyH_ready (rs := [1]) (by kernel_rfl) (by simp) ?_
  refine AllReadyH.cons (o := { dst := some 45, op := Op.load 3 (Operand.tmp 44), type := 3, pos := "dovecoteref3.go:179", after := #[{ on := 0, ground := Ground.data }], guard := none }) rfl (fun K hK => ?_) AllReadyH.nil
  go_simp
  refine hK.out _ _ (by go_keep) (fun hHeld => ?_)
  clear hK K
  refine wpAnyH_take (i := 2) (oi := { dst := some 46, op := Op.binOp BinOp.shl 3 (Operand.tmp 45) (Operand.const (Value.int IntKind.u64 8)) 51, type := 3, pos := "dovecoteref3.go:179", after := #[{ on := 1, ground := Ground.data }], guard := none }) (v := ?v7) rfl (by kernel_rfl) (by kernel_rfl) (by kernel_rfl) (fun _ _ _ h => h) (Or.inl ⟨by rfl, ?hy7⟩) (by assumption) ?rest7
  case hy7 => (intro w hSw; (try dsimp only at hSw); go_simp; (try rw [if_pos (by omega)]); (try with_reducible rfl))
  simp only [Act.put, List.setIfInBounds_toArray, List.set_cons_zero, List.set_cons_succ]
  refine wpAnyH_take (i := 8) (oi := { dst := some 52, op := Op.binOp BinOp.or 3 (Operand.tmp 46) (Operand.tmp 51) 3, type := 3, pos := "dovecoteref3.go:179", after := #[{ on := 2, ground := Ground.data }, { on := 7, ground := Ground.data }], guard := none }) (v := ?v8) rfl (by kernel_rfl) (by kernel_rfl) (by kernel_rfl) (fun _ _ _ h => h) (Or.inl ⟨by rfl, ?hy8⟩) (by assumption) ?rest8
  case hy8 => (intro w hSw; (try dsimp only at hSw); go_simp; (try rw [if_pos (by omega)]); (try with_reducible rfl))
  simp only [Act.put, List.setIfInBounds_toArray, List.set_cons_zero, List.set_cons_succ]
  refine wpAnyH_take (i := 9) (oi := { dst := some 53, op := Op.fieldAddr 49 (Operand.tmp 7) 1, type := 0, pos := "dovecoteref3.go:179", after := #[{ on := 0, ground := Ground.phase }, { on := 1, ground := Ground.phase }, { on := 2, ground := Ground.phase }, { on := 3, ground := Ground.phase }, { on := 4, ground := Ground.phase }, { on := 5, ground := Ground.phase }, { on := 6, ground := Ground.phase }, { on := 7, ground := Ground.phase }, { on := 8, ground := Ground.phase }], guard := none }) (v := ?v9) rfl (by kernel_rfl) (by kernel_rfl) (by kernel_rfl) (fun _ _ _ h => h) (Or.inl ⟨by rfl, ?hy9⟩) (by assumption) ?rest9
  case hy9 => (intro w hSw; (try dsimp only at hSw); go_simp; (try rw [if_pos (by omega)]); (try with_reducible rfl))
  simp only [Act.put, List.setIfInBounds_toArray, List.set_cons_zero, List.set_cons_succ]
  refine wpAnyH_ready (rs := [10]) (by kernel_rfl) (by simp) ?_
  refine AllReadyH.cons (o := { dst := none, op := Op.store 3 (Operand.tmp 53) (Operand.tmp 52), type := 0, pos := "dovecoteref3.go:179", after := #[{ on := 9, ground := Ground.data }, { on := 8, ground := Ground.data }, { on := 0, ground := Ground.phase }, { on := 1, ground := Ground.phase }, { on := 2, ground := Ground.phase }, { on := 3, ground := Ground.phase }, { on := 4, ground := Ground.phase }, { on := 5, ground := Ground.phase }, { on := 6, ground := Ground.phase }, { on := 7, ground := Ground.phase }, { on := 8, ground := Ground.phase }], guard := none }) rfl (fun K hK => ?_) AllReadyH.nil
  go_simp
  refine hK.out _ _ (by go_keep) (fun hHeld => ?_)
  clear hK K
  refine wpAnyH_done (by kernel_rfl) ?_ _
  refine NoPanic.normal ?_
  go_wp2_with fail
  rw [rounds_succ]
  go_wp2
  (try simp only [Exit.inBlock, Exit.then])
  refine bodyPost_ret (res_p2 (B := w.heap.size) (v0 := .int .i64 id) (v1 := .int .i64 (x0)) (v2 := .string ⟨#[]⟩) (v3 := .string ⟨#[]⟩) rfl rfl ?c0 ?c1 ?c2 ?c3) rfl ?_
  case c0 => simp only [World.cell?_drew]; rw [World.cell?_alloc_lt _ _ _ (by simpa using hl1)]; simp (maxDischargeDepth := 12) [cell_set, q0]
  case c1 => simp only [World.cell?_drew]; rw [World.cell?_alloc_lt _ _ _ (by simpa using hl1)]; simp (maxDischargeDepth := 12) [cell_set, q1]
  case c2 => simp only [World.cell?_drew]; rw [World.cell?_alloc_lt _ _ _ (by simpa using hl1)]; simp (maxDischargeDepth := 12) [cell_set, q2]
  case c3 => simp only [World.cell?_drew]; rw [World.cell?_alloc_lt _ _ _ (by simpa using hl1)]; simp (maxDischargeDepth := 12) [cell_set, q3]
  refine ⟨?_, by have := unhide HB1; go_grown⟩
  rw [unhide HBE]
  go_num
set_option maxHeartbeats 2000000 in
theorem rg_num1_bad (v : Value) (l : List Int) (w : World) (h : Byt w v l) (id : Int) (Q : Nat) (hv : V.vget l = (id, (Q : Int), 0)) (hQ : 1 ≤ Q ∧ Q ≤ l.length) (hQ4 : Q ≤ 4) (hk : kd id = 1) (hM2 : l.length < Q + 1) : Calls Tryd.prog 38 #[v] w (RgBad w) := by
  obtain ⟨b, off, cap, rfl, hc1, hc2⟩ := h.form1 (by omega)
  unfold maxLen at hc2
  have HV := hide h
  have Hhv := hide hv
  have HKD := hide hk
  clear h hv hk 
  generalize hn : l.length = n at hc1 hQ HV hM2
  have HN := hide hn
  clear hn
  by_cases hcQ : cap = Q
  · have e1 : Q = cap := hcQ.symm
    clear hcQ
    subst e1
    have e2 : Q = n := by omega
    subst e2
    go_enter Tryd.func38, Tryd.ntmps38
    go_wp2_with fail
    refine (rvget_good _ l _ ((unhide HV).below ((Below.refl _ _).alloc (Nat.le_refl _) _)) id Q (unhide Hhv)).mono ?_
    rintro e w1 ⟨rfl, hb1⟩
    have HB1 : Hid (Below w.heap.size w w1) := ((Below.refl _ _).alloc (Nat.le_refl _) _).trans (hb1.mono (by simp))
    have HD : Hid (Byt w1 (.slice (some ⟨b, off, none⟩) 0 0) (l.drop Q)) := by
      show Byt _ _ _
      have := ((unhide HV).below (unhide HB1)).drop' Q (by omega)
      rw [if_pos rfl, Nat.sub_self] at this; exact this
    have q0 : w1.cell? ⟨w.heap.size, 0, none⟩ = some (.int .i64 0) := (hb1.cell (p := ⟨w.heap.size, 0, none⟩) (by simp)).trans (by simp)
    have f0 : w1.frozen? ⟨w.heap.size, 0, none⟩ = false := (hb1.frozen (p := ⟨w.heap.size, 0, none⟩) (by simp)).trans (by simp)
    have q1 : w1.cell? ⟨w.heap.size, 1, none⟩ = some (.int .i64 0) := (hb1.cell (p := ⟨w.heap.size, 1, none⟩) (by simp)).trans (by simp)
    have f1 : w1.frozen? ⟨w.heap.size, 1, none⟩ = false := (hb1.frozen (p := ⟨w.heap.size, 1, none⟩) (by simp)).trans (by simp)
    have q2 : w1.cell? ⟨w.heap.size, 2, none⟩ = some (.string ⟨#[]⟩) := (hb1.cell (p := ⟨w.heap.size, 2, none⟩) (by simp)).trans (by simp)
    have f2 : w1.frozen? ⟨w.heap.size, 2, none⟩ = false := (hb1.frozen (p := ⟨w.heap.size, 2, none⟩) (by simp)).trans (by simp)
    have q3 : w1.cell? ⟨w.heap.size, 3, none⟩ = some (.string ⟨#[]⟩) := (hb1.cell (p := ⟨w.heap.size, 3, none⟩) (by simp)).trans (by simp)
    have f3 : w1.frozen? ⟨w.heap.size, 3, none⟩ = false := (hb1.frozen (p := ⟨w.heap.size, 3, none⟩) (by simp)).trans (by simp)
    have hl1 : w.heap.size < w1.heap.size := cell_lt q0
    have hne : ¬ w1.heap.size = w.heap.size := by omega
    clear hb1
    go_wp2_with (first | (go_at_call 39; refine (kind_tell id 1 (unhide HKD) _).mono ?_; rintro e w2 ⟨rfl, hw⟩; obtain rfl := hw.symm; clear hw) | fail)
    (try simp only [Exit.inBlock, Exit.then])
    refine bodyPost_ret (res_p2 (B := w.heap.size) (v0 := .int .i64 id) (v1 := .int .i64 0) (v2 := .string ⟨#[]⟩) (v3 := .string ⟨#[]⟩) rfl rfl ?c0 ?c1 ?c2 ?c3) rfl ?_
    case c0 => rw [World.cell?_alloc_lt _ _ _ (by simpa using hl1)]; simp (maxDischargeDepth := 12) [cell_set, q0]
    case c1 => rw [World.cell?_alloc_lt _ _ _ (by simpa using hl1)]; simp (maxDischargeDepth := 12) [cell_set, q1]
    case c2 => rw [World.cell?_alloc_lt _ _ _ (by simpa using hl1)]; simp (maxDischargeDepth := 12) [cell_set, q2]
    case c3 => rw [World.cell?_alloc_lt _ _ _ (by simpa using hl1)]; simp (maxDischargeDepth := 12) [cell_set, q3]
    exact ⟨_, _, _, _, rfl, by have := unhide HB1; go_grown⟩
  · go_enter Tryd.func38, Tryd.ntmps38
    go_wp2_with fail
    refine (rvget_good _ l _ ((unhide HV).below ((Below.refl _ _).alloc (Nat.le_refl _) _)) id Q (unhide Hhv)).mono ?_
    rintro e w1 ⟨rfl, hb1⟩
    have HB1 : Hid (Below w.heap.size w w1) := ((Below.refl _ _).alloc (Nat.le_refl _) _).trans (hb1.mono (by simp))
    have HD : Hid (Byt w1 (.slice (some ⟨b, off + Q, none⟩) (n - Q) (cap - Q)) (l.drop Q)) := by
      show Byt _ _ _
      have := ((unhide HV).below (unhide HB1)).drop' Q (by omega)
      rw [if_neg hcQ] at this; exact this
    have q0 : w1.cell? ⟨w.heap.size, 0, none⟩ = some (.int .i64 0) := (hb1.cell (p := ⟨w.heap.size, 0, none⟩) (by simp)).trans (by simp)
    have f0 : w1.frozen? ⟨w.heap.size, 0, none⟩ = false := (hb1.frozen (p := ⟨w.heap.size, 0, none⟩) (by simp)).trans (by simp)
    have q1 : w1.cell? ⟨w.heap.size, 1, none⟩ = some (.int .i64 0) := (hb1.cell (p := ⟨w.heap.size, 1, none⟩) (by simp)).trans (by simp)
    have f1 : w1.frozen? ⟨w.heap.size, 1, none⟩ = false := (hb1.frozen (p := ⟨w.heap.size, 1, none⟩) (by simp)).trans (by simp)
    have q2 : w1.cell? ⟨w.heap.size, 2, none⟩ = some (.string ⟨#[]⟩) := (hb1.cell (p := ⟨w.heap.size, 2, none⟩) (by simp)).trans (by simp)
    have f2 : w1.frozen? ⟨w.heap.size, 2, none⟩ = false := (hb1.frozen (p := ⟨w.heap.size, 2, none⟩) (by simp)).trans (by simp)
    have q3 : w1.cell? ⟨w.heap.size, 3, none⟩ = some (.string ⟨#[]⟩) := (hb1.cell (p := ⟨w.heap.size, 3, none⟩) (by simp)).trans (by simp)
    have f3 : w1.frozen? ⟨w.heap.size, 3, none⟩ = false := (hb1.frozen (p := ⟨w.heap.size, 3, none⟩) (by simp)).trans (by simp)
    have hl1 : w.heap.size < w1.heap.size := cell_lt q0
    have hne : ¬ w1.heap.size = w.heap.size := by omega
    clear hb1
    go_wp2_with (first | (go_at_call 39; refine (kind_tell id 1 (unhide HKD) _).mono ?_; rintro e w2 ⟨rfl, hw⟩; obtain rfl := hw.symm; clear hw) | fail)
    (try simp only [Exit.inBlock, Exit.then])
    refine bodyPost_ret (res_p2 (B := w.heap.size) (v0 := .int .i64 id) (v1 := .int .i64 0) (v2 := .string ⟨#[]⟩) (v3 := .string ⟨#[]⟩) rfl rfl ?c0 ?c1 ?c2 ?c3) rfl ?_
    case c0 => rw [World.cell?_alloc_lt _ _ _ (by simpa using hl1)]; simp (maxDischargeDepth := 12) [cell_set, q0]
    case c1 => rw [World.cell?_alloc_lt _ _ _ (by simpa using hl1)]; simp (maxDischargeDepth := 12) [cell_set, q1]
    case c2 => rw [World.cell?_alloc_lt _ _ _ (by simpa using hl1)]; simp (maxDischargeDepth := 12) [cell_set, q2]
    case c3 => rw [World.cell?_alloc_lt _ _ _ (by simpa using hl1)]; simp (maxDischargeDepth := 12) [cell_set, q3]
    exact ⟨_, _, _, _, rfl, by have := unhide HB1; go_grown⟩
set_option maxHeartbeats 2000000 in
theorem rg_num2 (v : Value) (l : List Int) (w : World) (h : Byt w v l) (id : Int) (Q : Nat) (hv : V.vget l = (id, (Q : Int), 0)) (hQ : 1 ≤ Q ∧ Q ≤ l.length) (hQ4 : Q ≤ 4) (hk : kd id = 2) (hM2 : Q + 2 ≤ l.length) : Calls Tryd.prog 38 #[v] w (RgOk (id, be 2 (l.drop Q), es, es) (Q + 2 : Nat) w) := by
  obtain ⟨x0, hx0⟩ : ∃ x, (l.drop Q).getD 0 0 = x := ⟨_, rfl⟩
  have r0 := Rng.drop h.range Q 0
  rw [hx0] at r0
  obtain ⟨x1, hx1⟩ : ∃ x, (l.drop Q).getD 1 0 = x := ⟨_, rfl⟩
  have r1 := Rng.drop h.range Q 1
  rw [hx1] at r1
  have hbe : be 2 (l.drop Q) = x0 * 256 + x1 := by unfold be; simp only [hx0, hx1]; simp
  obtain ⟨b, off, cap, rfl, hc1, hc2⟩ := h.form1 (by omega)
  unfold maxLen at hc2
  have HCC : Hid (∀ W : World, Byt W (.slice (some ⟨b, off + Q, none⟩) (l.length - Q) (cap - Q)) (l.drop Q) → ∀ j, j < 2 → W.cell? ⟨b, off + Q + j, none⟩ = some (.int .u8 ((l.drop Q).getD j 0))) := fun W hW j hj => by
    obtain ⟨ao', cap', e, _, _, hcase⟩ := hW
    simp only [Value.slice.injEq] at e
    obtain ⟨rfl, _, _⟩ := e
    rcases hcase with hc | ⟨b', off', e', hc⟩
    · have := congrArg List.length hc
      simp at this
      omega
    · simp only [Option.some.injEq, Addr.mk.injEq] at e'
      obtain ⟨rfl, rfl, _⟩ := e'
      exact hc j (by rw [List.length_drop]; omega)
  have HCB : Hid (∀ W : World, Byt W (.slice (some ⟨b, off + Q, none⟩) (l.length - Q) (cap - Q)) (l.drop Q) → b < W.heap.size) := fun W hW => cell_lt ((unhide HCC) W hW 0 (by omega))
  have HX0 := hide hx0
  clear hx0
  have HX1 := hide hx1
  clear hx1
  have HBE := hide hbe
  clear hbe
  have HV := hide h
  have Hhv := hide hv
  have HKD := hide hk
  clear h hv hk 
  generalize hn : l.length = n at hc1 hQ HV hM2 HCC HCB
  have HN := hide hn
  clear hn
  have hcQ : ¬ cap = Q := by omega
  go_enter Tryd.func38, Tryd.ntmps38
  go_wp2_with fail
  refine (rvget_good _ l _ ((unhide HV).below ((Below.refl _ _).alloc (Nat.le_refl _) _)) id Q (unhide Hhv)).mono ?_
  rintro e w1 ⟨rfl, hb1⟩
  have HB1 : Hid (Below w.heap.size w w1) := ((Below.refl _ _).alloc (Nat.le_refl _) _).trans (hb1.mono (by simp))
  have HD : Hid (Byt w1 (.slice (some ⟨b, off + Q, none⟩) (n - Q) (cap - Q)) (l.drop Q)) := by
    show Byt _ _ _
    have := ((unhide HV).below (unhide HB1)).drop' Q (by omega)
    rw [if_neg hcQ] at this; exact this
  have q0 : w1.cell? ⟨w.heap.size, 0, none⟩ = some (.int .i64 0) := (hb1.cell (p := ⟨w.heap.size, 0, none⟩) (by simp)).trans (by simp)
  have f0 : w1.frozen? ⟨w.heap.size, 0, none⟩ = false := (hb1.frozen (p := ⟨w.heap.size, 0, none⟩) (by simp)).trans (by simp)
  have q1 : w1.cell? ⟨w.heap.size, 1, none⟩ = some (.int .i64 0) := (hb1.cell (p := ⟨w.heap.size, 1, none⟩) (by simp)).trans (by simp)
  have f1 : w1.frozen? ⟨w.heap.size, 1, none⟩ = false := (hb1.frozen (p := ⟨w.heap.size, 1, none⟩) (by simp)).trans (by simp)
  have q2 : w1.cell? ⟨w.heap.size, 2, none⟩ = some (.string ⟨#[]⟩) := (hb1.cell (p := ⟨w.heap.size, 2, none⟩) (by simp)).trans (by simp)
  have f2 : w1.frozen? ⟨w.heap.size, 2, none⟩ = false := (hb1.frozen (p := ⟨w.heap.size, 2, none⟩) (by simp)).trans (by simp)
  have q3 : w1.cell? ⟨w.heap.size, 3, none⟩ = some (.string ⟨#[]⟩) := (hb1.cell (p := ⟨w.heap.size, 3, none⟩) (by simp)).trans (by simp)
  have f3 : w1.frozen? ⟨w.heap.size, 3, none⟩ = false := (hb1.frozen (p := ⟨w.heap.size, 3, none⟩) (by simp)).trans (by simp)
  have hl1 : w.heap.size < w1.heap.size := cell_lt q0
  have hne : ¬ w1.heap.size = w.heap.size := by omega
  clear hb1
  have hbl : b < w1.heap.size := (unhide HCB) w1 (unhide HD)
  have y0 : w1.cell? ⟨b, off + Q, none⟩ = some (.int .u8 x0) := by
    have := (unhide HCC) w1 (unhide HD) 0 (by omega)
    rw [unhide HX0] at this
    exact this
  have y1 : w1.cell? ⟨b, off + Q + 1, none⟩ = some (.int .u8 x1) := by
    have := (unhide HCC) w1 (unhide HD) 1 (by omega)
    rw [unhide HX1] at this
    exact this
  have ix0 : ((0 : Nat) : Int) < ((n - Q : Nat) : Int) := by omega
  have iy0 : (0 : Int) < ((n - Q : Nat) : Int) := by omega
  have iz0 : 0 < n - Q := by omega
  have ix1 : ((1 : Nat) : Int) < ((n - Q : Nat) : Int) := by omega
  have iy1 : (1 : Int) < ((n - Q : Nat) : Int) := by omega
  have iz1 : 1 < n - Q := by omega
  have hnb : ¬ b = w1.heap.size := by omega
  have e0 : bits .or .i64 0 x0 = x0 := V.or_zero x0 r0.1 (by omega)
  have e1 := or_256 (x0) x1 (by omega) (by omega) r1.1 r1.2
  go_wp2_with (first | (go_at_call 39; refine (kind_tell id 2 (unhide HKD) _).mono ?_; rintro e w2 ⟨rfl, hw⟩; obtain rfl := hw.symm; clear hw) | fail)
  refine wp_loop_rounds 3 ?_
  rw [rounds_succ]
  go_wp2_with fail
  refine wp_region_noPanic ?_
  refine wp_region_held_drew (S := (fun w' => w'.cell? ⟨b, off + Q, none⟩ = some (.int .u8 x0))) (by kernel_rfl) (by go_keep) (fun hHeld => ?_)
  refine wpAnyH_take (i := 0) (oi := { dst := some 44, op := Op.fieldAddr 49 (Operand.tmp 7) 1, type := 0, pos := "dovecoteref3.go:179", after := #[], guard := none }) (v := ?v10) rfl (by kernel_rfl) (by kernel_rfl) (by kernel_rfl) (fun _ _ _ h => h) (Or.inl ⟨by rfl, ?hy10⟩) (by assumption) ?rest10
  case hy10 => (intro w hSw; (try dsimp only at hSw); go_simp; (try rw [if_pos (by omega)]); (try with_reducible rfl))
  simp only [Act.put, List.setIfInBounds_toArray, List.set_cons_zero, List.set_cons_succ]
  refine wpAnyH_take (i := 3) (oi := { dst := some 47, op := Op.move (Operand.tmp 0), type := 24, pos := "dovecoteref3.go:179", after := #[], guard := none }) (v := ?v11) rfl (by kernel_rfl) (by kernel_rfl) (by kernel_rfl) (fun _ _ _ h => h) (Or.inl ⟨by rfl, ?hy11⟩) (by assumption) ?rest11
  case hy11 => (intro w hSw; (try dsimp only at hSw); go_simp; (try rw [if_pos (by omega)]); (try with_reducible rfl))
  simp only [Act.put, List.setIfInBounds_toArray, List.set_cons_zero, List.set_cons_succ]
  refine wpAnyH_take (i := 4) (oi := { dst := some 48, op := Op.move (Operand.tmp 9), type := 3, pos := "dovecoteref3.go:179", after := #[], guard := none }) (v := ?v12) rfl (by kernel_rfl) (by kernel_rfl) (by kernel_rfl) (fun _ _ _ h => h) (Or.inl ⟨by rfl, ?hy12⟩) (by assumption) ?rest12
  case hy12 => (intro w hSw; (try dsimp only at hSw); go_simp; (try rw [if_pos (by omega)]); (try with_reducible rfl))
  simp only [Act.put, List.setIfInBounds_toArray, List.set_cons_zero, List.set_cons_succ]
  refine wpAnyH_take (i := 5) (oi := { dst := some 49, op := Op.indexAddr 24 (Operand.tmp 47) (Operand.tmp 48), type := 0, pos := "dovecoteref3.go:179", after := #[{ on := 3, ground := Ground.data }, { on := 4, ground := Ground.data }], guard := none }) (v := ?v13) rfl (by kernel_rfl) (by kernel_rfl) (by kernel_rfl) (fun _ _ _ h => h) (Or.inl ⟨by rfl, ?hy13⟩) (by assumption) ?rest13
  case hy13 => (intro w hSw; (try dsimp only at hSw); go_simp; (try rw [if_pos (by omega)]); (try with_reducible rfl))
  simp only [Act.put, List.setIfInBounds_toArray, List.set_cons_zero, List.set_cons_succ]
  refine wpAnyH_take (i := 6) (oi := { dst := some 50, op := Op.load 5 (Operand.tmp 49), type := 5, pos := "dovecoteref3.go:179", after := #[{ on := 5, ground := Ground.data }], guard := none }) (v := ?v14) rfl (by kernel_rfl) (by kernel_rfl) (by kernel_rfl) (fun _ _ _ h => h) (Or.inl ⟨by rfl, ?hy14⟩) (by assumption) ?rest14
  case hy14 => (intro w hSw; (try dsimp only at hSw); go_simp; (try rw [if_pos (by omega)]); (try with_reducible rfl))
  simp only [Act.put, List.setIfInBounds_toArray, List.set_cons_zero, List.set_cons_succ]
  refine wpAnyH_take (i := 7) (oi := { dst := some 51, op := Op.convert 5 3 (Operand.tmp 50), type := 3, pos := "dovecoteref3.go:179", after := #[{ on := 6, ground := Ground.data }], guard := none }) (v := ?v15) rfl (by kernel_rfl) (by kernel_rfl) (by kernel_rfl) (fun _ _ _ h => h) (Or.inl ⟨by rfl, ?hy15⟩) (by assumption) ?rest15
  case hy15 => (intro w hSw; (try dsimp only at hSw); go_simp; (try rw [if_pos (by omega)]); (try with_reducible rfl))
  simp only [Act.put, List.setIfInBounds_toArray, List.set_cons_zero, List.set_cons_succ]
  refine wpAnyH_ready (rs := [1]) (by kernel_rfl) (by simp) ?_
  refine AllReadyH.cons (o := { dst := some 45, op := Op.load 3 (Operand.tmp 44), type := 3, pos := "dovecoteref3.go:179", after := #[{ on := 0, ground := Ground.data }], guard := none }) rfl (fun K hK => ?_) AllReadyH.nil
  go_simp
  refine hK.out _ _ (by go_keep) (fun hHeld => ?_)
  clear hK K
  refine wpAnyH_take (i := 2) (oi := { dst := some 46, op := Op.binOp BinOp.shl 3 (Operand.tmp 45) (Operand.const (Value.int IntKind.u64 8)) 51, type := 3, pos := "dovecoteref3.go:179", after := #[{ on := 1, ground := Ground.data }], guard := none }) (v := ?v16) rfl (by kernel_rfl) (by kernel_rfl) (by kernel_rfl) (fun _ _ _ h => h) (Or.inl ⟨by rfl, ?hy16⟩) (by assumption) ?rest16
  case hy16 => (intro w hSw; (try dsimp only at hSw); go_simp; (try rw [if_pos (by omega)]); (try with_reducible rfl))
  simp only [Act.put, List.setIfInBounds_toArray, List.set_cons_zero, List.set_cons_succ]
  refine wpAnyH_take (i := 8) (oi := { dst := some 52, op := Op.binOp BinOp.or 3 (Operand.tmp 46) (Operand.tmp 51) 3, type := 3, pos := "dovecoteref3.go:179", after := #[{ on := 2, ground := Ground.data }, { on := 7, ground := Ground.data }], guard := none }) (v := ?v17) rfl (by kernel_rfl) (by kernel_rfl) (by kernel_rfl) (fun _ _ _ h => h) (Or.inl ⟨by rfl, ?hy17⟩) (by assumption) ?rest17
  case hy17 => (intro w hSw; (try dsimp only at hSw); go_simp; (try rw [if_pos (by omega)]); (try with_reducible rfl))
  simp only [Act.put, List.setIfInBounds_toArray, List.set_cons_zero, List.set_cons_succ]
  refine wpAnyH_take (i := 9) (oi := { dst := some 53, op := Op.fieldAddr 49 (Operand.tmp 7) 1, type := 0, pos := "dovecoteref3.go:179", after := #[{ on := 0, ground := Ground.phase }, { on := 1, ground := Ground.phase }, { on := 2, ground := Ground.phase }, { on := 3, ground := Ground.phase }, { on := 4, ground := Ground.phase }, { on := 5, ground := Ground.phase }, { on := 6, ground := Ground.phase }, { on := 7, ground := Ground.phase }, { on := 8, ground := Ground.phase }], guard := none }) (v := ?v18) rfl (by kernel_rfl) (by kernel_rfl) (by kernel_rfl) (fun _ _ _ h => h) (Or.inl ⟨by rfl, ?hy18⟩) (by assumption) ?rest18
  case hy18 => (intro w hSw; (try dsimp only at hSw); go_simp; (try rw [if_pos (by omega)]); (try with_reducible rfl))
  simp only [Act.put, List.setIfInBounds_toArray, List.set_cons_zero, List.set_cons_succ]
  refine wpAnyH_ready (rs := [10]) (by kernel_rfl) (by simp) ?_
  refine AllReadyH.cons (o := { dst := none, op := Op.store 3 (Operand.tmp 53) (Operand.tmp 52), type := 0, pos := "dovecoteref3.go:179", after := #[{ on := 9, ground := Ground.data }, { on := 8, ground := Ground.data }, { on := 0, ground := Ground.phase }, { on := 1, ground := Ground.phase }, { on := 2, ground := Ground.phase }, { on := 3, ground := Ground.phase }, { on := 4, ground := Ground.phase }, { on := 5, ground := Ground.phase }, { on := 6, ground := Ground.phase }, { on := 7, ground := Ground.phase }, { on := 8, ground := Ground.phase }], guard := none }) rfl (fun K hK => ?_) AllReadyH.nil
  go_simp
  refine hK.out _ _ (by go_keep) (fun hHeld => ?_)
  clear hK K
  refine wpAnyH_done (by kernel_rfl) ?_ _
  refine NoPanic.normal ?_
  go_wp2_with fail
  rw [rounds_succ]
  go_wp2_with fail
  refine wp_region_noPanic ?_
  refine wp_region_held_drew (S := (fun w' => w'.cell? ⟨b, off + Q + 1, none⟩ = some (.int .u8 x1))) (by kernel_rfl) (by go_keep) (fun hHeld => ?_)
  refine wpAnyH_take (i := 0) (oi := { dst := some 44, op := Op.fieldAddr 49 (Operand.tmp 7) 1, type := 0, pos := "dovecoteref3.go:179", after := #[], guard := none }) (v := ?v19) rfl (by kernel_rfl) (by kernel_rfl) (by kernel_rfl) (fun _ _ _ h => h) (Or.inl ⟨by rfl, ?hy19⟩) (by assumption) ?rest19
  case hy19 => (intro w hSw; (try dsimp only at hSw); go_simp; (try rw [if_pos (by omega)]); (try with_reducible rfl))
  simp only [Act.put, List.setIfInBounds_toArray, List.set_cons_zero, List.set_cons_succ]
  refine wpAnyH_take (i := 3) (oi := { dst := some 47, op := Op.move (Operand.tmp 0), type := 24, pos := "dovecoteref3.go:179", after := #[], guard := none }) (v := ?v20) rfl (by kernel_rfl) (by kernel_rfl) (by kernel_rfl) (fun _ _ _ h => h) (Or.inl ⟨by rfl, ?hy20⟩) (by assumption) ?rest20
  case hy20 => (intro w hSw; (try dsimp only at hSw); go_simp; (try rw [if_pos (by omega)]); (try with_reducible rfl))
  simp only [Act.put, List.setIfInBounds_toArray, List.set_cons_zero, List.set_cons_succ]
  refine wpAnyH_take (i := 4) (oi := { dst := some 48, op := Op.move (Operand.tmp 9), type := 3, pos := "dovecoteref3.go:179", after := #[], guard := none }) (v := ?v21) rfl (by kernel_rfl) (by kernel_rfl) (by kernel_rfl) (fun _ _ _ h => h) (Or.inl ⟨by rfl, ?hy21⟩) (by assumption) ?rest21
  case hy21 => (intro w hSw; (try dsimp only at hSw); go_simp; (try rw [if_pos (by omega)]); (try with_reducible rfl))
  simp only [Act.put, List.setIfInBounds_toArray, List.set_cons_zero, List.set_cons_succ]
  refine wpAnyH_take (i := 5) (oi := { dst := some 49, op := Op.indexAddr 24 (Operand.tmp 47) (Operand.tmp 48), type := 0, pos := "dovecoteref3.go:179", after := #[{ on := 3, ground := Ground.data }, { on := 4, ground := Ground.data }], guard := none }) (v := ?v22) rfl (by kernel_rfl) (by kernel_rfl) (by kernel_rfl) (fun _ _ _ h => h) (Or.inl ⟨by rfl, ?hy22⟩) (by assumption) ?rest22
  case hy22 => (intro w hSw; (try dsimp only at hSw); go_simp; (try rw [if_pos (by omega)]); (try with_reducible rfl))
  simp only [Act.put, List.setIfInBounds_toArray, List.set_cons_zero, List.set_cons_succ]
  refine wpAnyH_take (i := 6) (oi := { dst := some 50, op := Op.load 5 (Operand.tmp 49), type := 5, pos := "dovecoteref3.go:179", after := #[{ on := 5, ground := Ground.data }], guard := none }) (v := ?v23) rfl (by kernel_rfl) (by kernel_rfl) (by kernel_rfl) (fun _ _ _ h => h) (Or.inl ⟨by rfl, ?hy23⟩) (by assumption) ?rest23
  case hy23 => (intro w hSw; (try dsimp only at hSw); go_simp; (try rw [if_pos (by omega)]); (try with_reducible rfl))
  simp only [Act.put, List.setIfInBounds_toArray, List.set_cons_zero, List.set_cons_succ]
  refine wpAnyH_take (i := 7) (oi := { dst := some 51, op := Op.convert 5 3 (Operand.tmp 50), type := 3, pos := "dovecoteref3.go:179", after := #[{ on := 6, ground := Ground.data }], guard := none }) (v := ?v24) rfl (by kernel_rfl) (by kernel_rfl) (by kernel_rfl) (fun _ _ _ h => h) (Or.inl ⟨by rfl, ?hy24⟩) (by assumption) ?rest24
  case hy24 => (intro w hSw; (try dsimp only at hSw); go_simp; (try rw [if_pos (by omega)]); (try with_reducible rfl))
  simp only [Act.put, List.setIfInBounds_toArray, List.set_cons_zero, List.set_cons_succ]
  refine wpAnyH_ready (rs := [1]) (by kernel_rfl) (by simp) ?_
  refine AllReadyH.cons (o := { dst := some 45, op := Op.load 3 (Operand.tmp 44), type := 3, pos := "dovecoteref3.go:179", after := #[{ on := 0, ground := Ground.data }], guard := none }) rfl (fun K hK => ?_) AllReadyH.nil
  go_simp
  refine hK.out _ _ (by go_keep) (fun hHeld => ?_)
  clear hK K
  refine wpAnyH_take (i := 2) (oi := { dst := some 46, op := Op.binOp BinOp.shl 3 (Operand.tmp 45) (Operand.const (Value.int IntKind.u64 8)) 51, type := 3, pos := "dovecoteref3.go:179", after := #[{ on := 1, ground := Ground.data }], guard := none }) (v := ?v25) rfl (by kernel_rfl) (by kernel_rfl) (by kernel_rfl) (fun _ _ _ h => h) (Or.inl ⟨by rfl, ?hy25⟩) (by assumption) ?rest25
  case hy25 => (intro w hSw; (try dsimp only at hSw); go_simp; (try rw [if_pos (by omega)]); (try with_reducible rfl))
  simp only [Act.put, List.setIfInBounds_toArray, List.set_cons_zero, List.set_cons_succ]
  refine wpAnyH_take (i := 8) (oi := { dst := some 52, op := Op.binOp BinOp.or 3 (Operand.tmp 46) (Operand.tmp 51) 3, type := 3, pos := "dovecoteref3.go:179", after := #[{ on := 2, ground := Ground.data }, { on := 7, ground := Ground.data }], guard := none }) (v := ?v26) rfl (by kernel_rfl) (by kernel_rfl) (by kernel_rfl) (fun _ _ _ h => h) (Or.inl ⟨by rfl, ?hy26⟩) (by assumption) ?rest26
  case hy26 => (intro w hSw; (try dsimp only at hSw); go_simp; (try rw [if_pos (by omega)]); (try with_reducible rfl))
  simp only [Act.put, List.setIfInBounds_toArray, List.set_cons_zero, List.set_cons_succ]
  refine wpAnyH_take (i := 9) (oi := { dst := some 53, op := Op.fieldAddr 49 (Operand.tmp 7) 1, type := 0, pos := "dovecoteref3.go:179", after := #[{ on := 0, ground := Ground.phase }, { on := 1, ground := Ground.phase }, { on := 2, ground := Ground.phase }, { on := 3, ground := Ground.phase }, { on := 4, ground := Ground.phase }, { on := 5, ground := Ground.phase }, { on := 6, ground := Ground.phase }, { on := 7, ground := Ground.phase }, { on := 8, ground := Ground.phase }], guard := none }) (v := ?v27) rfl (by kernel_rfl) (by kernel_rfl) (by kernel_rfl) (fun _ _ _ h => h) (Or.inl ⟨by rfl, ?hy27⟩) (by assumption) ?rest27
  case hy27 => (intro w hSw; (try dsimp only at hSw); go_simp; (try rw [if_pos (by omega)]); (try with_reducible rfl))
  simp only [Act.put, List.setIfInBounds_toArray, List.set_cons_zero, List.set_cons_succ]
  refine wpAnyH_ready (rs := [10]) (by kernel_rfl) (by simp) ?_
  refine AllReadyH.cons (o := { dst := none, op := Op.store 3 (Operand.tmp 53) (Operand.tmp 52), type := 0, pos := "dovecoteref3.go:179", after := #[{ on := 9, ground := Ground.data }, { on := 8, ground := Ground.data }, { on := 0, ground := Ground.phase }, { on := 1, ground := Ground.phase }, { on := 2, ground := Ground.phase }, { on := 3, ground := Ground.phase }, { on := 4, ground := Ground.phase }, { on := 5, ground := Ground.phase }, { on := 6, ground := Ground.phase }, { on := 7, ground := Ground.phase }, { on := 8, ground := Ground.phase }], guard := none }) rfl (fun K hK => ?_) AllReadyH.nil
  go_simp
  refine hK.out _ _ (by go_keep) (fun hHeld => ?_)
  clear hK K
  refine wpAnyH_done (by kernel_rfl) ?_ _
  refine NoPanic.normal ?_
  go_wp2_with fail
  rw [rounds_succ]
  go_wp2
  (try simp only [Exit.inBlock, Exit.then])
  refine bodyPost_ret (res_p2 (B := w.heap.size) (v0 := .int .i64 id) (v1 := .int .i64 (x0 * 256 + x1)) (v2 := .string ⟨#[]⟩) (v3 := .string ⟨#[]⟩) rfl rfl ?c0 ?c1 ?c2 ?c3) rfl ?_
  case c0 => simp only [World.cell?_drew]; rw [World.cell?_alloc_lt _ _ _ (by simpa using hl1)]; simp (maxDischargeDepth := 12) [cell_set, q0]
  case c1 => simp only [World.cell?_drew]; rw [World.cell?_alloc_lt _ _ _ (by simpa using hl1)]; simp (maxDischargeDepth := 12) [cell_set, q1]
  case c2 => simp only [World.cell?_drew]; rw [World.cell?_alloc_lt _ _ _ (by simpa using hl1)]; simp (maxDischargeDepth := 12) [cell_set, q2]
  case c3 => simp only [World.cell?_drew]; rw [World.cell?_alloc_lt _ _ _ (by simpa using hl1)]; simp (maxDischargeDepth := 12) [cell_set, q3]
  refine ⟨?_, by have := unhide HB1; go_grown⟩
  rw [unhide HBE]
  go_num
set_option maxHeartbeats 2000000 in
theorem rg_num2_bad (v : Value) (l : List Int) (w : World) (h : Byt w v l) (id : Int) (Q : Nat) (hv : V.vget l = (id, (Q : Int), 0)) (hQ : 1 ≤ Q ∧ Q ≤ l.length) (hQ4 : Q ≤ 4) (hk : kd id = 2) (hM2 : l.length < Q + 2) : Calls Tryd.prog 38 #[v] w (RgBad w) := by
  obtain ⟨b, off, cap, rfl, hc1, hc2⟩ := h.form1 (by omega)
  unfold maxLen at hc2
  have HV := hide h
  have Hhv := hide hv
  have HKD := hide hk
  clear h hv hk 
  generalize hn : l.length = n at hc1 hQ HV hM2
  have HN := hide hn
  clear hn
  by_cases hcQ : cap = Q
  · have e1 : Q = cap := hcQ.symm
    clear hcQ
    subst e1
    have e2 : Q = n := by omega
    subst e2
    go_enter Tryd.func38, Tryd.ntmps38
    go_wp2_with fail
    refine (rvget_good _ l _ ((unhide HV).below ((Below.refl _ _).alloc (Nat.le_refl _) _)) id Q (unhide Hhv)).mono ?_
    rintro e w1 ⟨rfl, hb1⟩
    have HB1 : Hid (Below w.heap.size w w1) := ((Below.refl _ _).alloc (Nat.le_refl _) _).trans (hb1.mono (by simp))
    have HD : Hid (Byt w1 (.slice (some ⟨b, off, none⟩) 0 0) (l.drop Q)) := by
      show Byt _ _ _
      have := ((unhide HV).below (unhide HB1)).drop' Q (by omega)
      rw [if_pos rfl, Nat.sub_self] at this; exact this
    have q0 : w1.cell? ⟨w.heap.size, 0, none⟩ = some (.int .i64 0) := (hb1.cell (p := ⟨w.heap.size, 0, none⟩) (by simp)).trans (by simp)
    have f0 : w1.frozen? ⟨w.heap.size, 0, none⟩ = false := (hb1.frozen (p := ⟨w.heap.size, 0, none⟩) (by simp)).trans (by simp)
    have q1 : w1.cell? ⟨w.heap.size, 1, none⟩ = some (.int .i64 0) := (hb1.cell (p := ⟨w.heap.size, 1, none⟩) (by simp)).trans (by simp)
    have f1 : w1.frozen? ⟨w.heap.size, 1, none⟩ = false := (hb1.frozen (p := ⟨w.heap.size, 1, none⟩) (by simp)).trans (by simp)
    have q2 : w1.cell? ⟨w.heap.size, 2, none⟩ = some (.string ⟨#[]⟩) := (hb1.cell (p := ⟨w.heap.size, 2, none⟩) (by simp)).trans (by simp)
    have f2 : w1.frozen? ⟨w.heap.size, 2, none⟩ = false := (hb1.frozen (p := ⟨w.heap.size, 2, none⟩) (by simp)).trans (by simp)
    have q3 : w1.cell? ⟨w.heap.size, 3, none⟩ = some (.string ⟨#[]⟩) := (hb1.cell (p := ⟨w.heap.size, 3, none⟩) (by simp)).trans (by simp)
    have f3 : w1.frozen? ⟨w.heap.size, 3, none⟩ = false := (hb1.frozen (p := ⟨w.heap.size, 3, none⟩) (by simp)).trans (by simp)
    have hl1 : w.heap.size < w1.heap.size := cell_lt q0
    have hne : ¬ w1.heap.size = w.heap.size := by omega
    clear hb1
    go_wp2_with (first | (go_at_call 39; refine (kind_tell id 2 (unhide HKD) _).mono ?_; rintro e w2 ⟨rfl, hw⟩; obtain rfl := hw.symm; clear hw) | fail)
    (try simp only [Exit.inBlock, Exit.then])
    refine bodyPost_ret (res_p2 (B := w.heap.size) (v0 := .int .i64 id) (v1 := .int .i64 0) (v2 := .string ⟨#[]⟩) (v3 := .string ⟨#[]⟩) rfl rfl ?c0 ?c1 ?c2 ?c3) rfl ?_
    case c0 => rw [World.cell?_alloc_lt _ _ _ (by simpa using hl1)]; simp (maxDischargeDepth := 12) [cell_set, q0]
    case c1 => rw [World.cell?_alloc_lt _ _ _ (by simpa using hl1)]; simp (maxDischargeDepth := 12) [cell_set, q1]
    case c2 => rw [World.cell?_alloc_lt _ _ _ (by simpa using hl1)]; simp (maxDischargeDepth := 12) [cell_set, q2]
    case c3 => rw [World.cell?_alloc_lt _ _ _ (by simpa using hl1)]; simp (maxDischargeDepth := 12) [cell_set, q3]
    exact ⟨_, _, _, _, rfl, by have := unhide HB1; go_grown⟩
  · go_enter Tryd.func38, Tryd.ntmps38
    go_wp2_with fail
    refine (rvget_good _ l _ ((unhide HV).below ((Below.refl _ _).alloc (Nat.le_refl _) _)) id Q (unhide Hhv)).mono ?_
    rintro e w1 ⟨rfl, hb1⟩
    have HB1 : Hid (Below w.heap.size w w1) := ((Below.refl _ _).alloc (Nat.le_refl _) _).trans (hb1.mono (by simp))
    have HD : Hid (Byt w1 (.slice (some ⟨b, off + Q, none⟩) (n - Q) (cap - Q)) (l.drop Q)) := by
      show Byt _ _ _
      have := ((unhide HV).below (unhide HB1)).drop' Q (by omega)
      rw [if_neg hcQ] at this; exact this
    have q0 : w1.cell? ⟨w.heap.size, 0, none⟩ = some (.int .i64 0) := (hb1.cell (p := ⟨w.heap.size, 0, none⟩) (by simp)).trans (by simp)
    have f0 : w1.frozen? ⟨w.heap.size, 0, none⟩ = false := (hb1.frozen (p := ⟨w.heap.size, 0, none⟩) (by simp)).trans (by simp)
    have q1 : w1.cell? ⟨w.heap.size, 1, none⟩ = some (.int .i64 0) := (hb1.cell (p := ⟨w.heap.size, 1, none⟩) (by simp)).trans (by simp)
    have f1 : w1.frozen? ⟨w.heap.size, 1, none⟩ = false := (hb1.frozen (p := ⟨w.heap.size, 1, none⟩) (by simp)).trans (by simp)
    have q2 : w1.cell? ⟨w.heap.size, 2, none⟩ = some (.string ⟨#[]⟩) := (hb1.cell (p := ⟨w.heap.size, 2, none⟩) (by simp)).trans (by simp)
    have f2 : w1.frozen? ⟨w.heap.size, 2, none⟩ = false := (hb1.frozen (p := ⟨w.heap.size, 2, none⟩) (by simp)).trans (by simp)
    have q3 : w1.cell? ⟨w.heap.size, 3, none⟩ = some (.string ⟨#[]⟩) := (hb1.cell (p := ⟨w.heap.size, 3, none⟩) (by simp)).trans (by simp)
    have f3 : w1.frozen? ⟨w.heap.size, 3, none⟩ = false := (hb1.frozen (p := ⟨w.heap.size, 3, none⟩) (by simp)).trans (by simp)
    have hl1 : w.heap.size < w1.heap.size := cell_lt q0
    have hne : ¬ w1.heap.size = w.heap.size := by omega
    clear hb1
    go_wp2_with (first | (go_at_call 39; refine (kind_tell id 2 (unhide HKD) _).mono ?_; rintro e w2 ⟨rfl, hw⟩; obtain rfl := hw.symm; clear hw) | fail)
    (try simp only [Exit.inBlock, Exit.then])
    refine bodyPost_ret (res_p2 (B := w.heap.size) (v0 := .int .i64 id) (v1 := .int .i64 0) (v2 := .string ⟨#[]⟩) (v3 := .string ⟨#[]⟩) rfl rfl ?c0 ?c1 ?c2 ?c3) rfl ?_
    case c0 => rw [World.cell?_alloc_lt _ _ _ (by simpa using hl1)]; simp (maxDischargeDepth := 12) [cell_set, q0]
    case c1 => rw [World.cell?_alloc_lt _ _ _ (by simpa using hl1)]; simp (maxDischargeDepth := 12) [cell_set, q1]
    case c2 => rw [World.cell?_alloc_lt _ _ _ (by simpa using hl1)]; simp (maxDischargeDepth := 12) [cell_set, q2]
    case c3 => rw [World.cell?_alloc_lt _ _ _ (by simpa using hl1)]; simp (maxDischargeDepth := 12) [cell_set, q3]
    exact ⟨_, _, _, _, rfl, by have := unhide HB1; go_grown⟩
set_option maxHeartbeats 2000000 in
theorem rg_num4 (v : Value) (l : List Int) (w : World) (h : Byt w v l) (id : Int) (Q : Nat) (hv : V.vget l = (id, (Q : Int), 0)) (hQ : 1 ≤ Q ∧ Q ≤ l.length) (hQ4 : Q ≤ 4) (hk : kd id = 4) (hM2 : Q + 4 ≤ l.length) : Calls Tryd.prog 38 #[v] w (RgOk (id, be 4 (l.drop Q), es, es) (Q + 4 : Nat) w) := by
  obtain ⟨x0, hx0⟩ : ∃ x, (l.drop Q).getD 0 0 = x := ⟨_, rfl⟩
  have r0 := Rng.drop h.range Q 0
  rw [hx0] at r0
  obtain ⟨x1, hx1⟩ : ∃ x, (l.drop Q).getD 1 0 = x := ⟨_, rfl⟩
  have r1 := Rng.drop h.range Q 1
  rw [hx1] at r1
  obtain ⟨x2, hx2⟩ : ∃ x, (l.drop Q).getD 2 0 = x := ⟨_, rfl⟩
  have r2 := Rng.drop h.range Q 2
  rw [hx2] at r2
  obtain ⟨x3, hx3⟩ : ∃ x, (l.drop Q).getD 3 0 = x := ⟨_, rfl⟩
  have r3 := Rng.drop h.range Q 3
  rw [hx3] at r3
  have hbe : be 4 (l.drop Q) = ((x0 * 256 + x1) * 256 + x2) * 256 + x3 := by unfold be; simp only [hx0, hx1, hx2, hx3]; simp
  obtain ⟨b, off, cap, rfl, hc1, hc2⟩ := h.form1 (by omega)
  unfold maxLen at hc2
  have HCC : Hid (∀ W : World, Byt W (.slice (some ⟨b, off + Q, none⟩) (l.length - Q) (cap - Q)) (l.drop Q) → ∀ j, j < 4 → W.cell? ⟨b, off + Q + j, none⟩ = some (.int .u8 ((l.drop Q).getD j 0))) := fun W hW j hj => by
    obtain ⟨ao', cap', e, _, _, hcase⟩ := hW
    simp only [Value.slice.injEq] at e
    obtain ⟨rfl, _, _⟩ := e
    rcases hcase with hc | ⟨b', off', e', hc⟩
    · have := congrArg List.length hc
      simp at this
      omega
    · simp only [Option.some.injEq, Addr.mk.injEq] at e'
      obtain ⟨rfl, rfl, _⟩ := e'
      exact hc j (by rw [List.length_drop]; omega)
  have HCB : Hid (∀ W : World, Byt W (.slice (some ⟨b, off + Q, none⟩) (l.length - Q) (cap - Q)) (l.drop Q) → b < W.heap.size) := fun W hW => cell_lt ((unhide HCC) W hW 0 (by omega))
  have HX0 := hide hx0
  clear hx0
  have HX1 := hide hx1
  clear hx1
  have HX2 := hide hx2
  clear hx2
  have HX3 := hide hx3
  clear hx3
  have HBE := hide hbe
  clear hbe
  have HV := hide h
  have Hhv := hide hv
  have HKD := hide hk
  clear h hv hk 
  generalize hn : l.length = n at hc1 hQ HV hM2 HCC HCB
  have HN := hide hn
  clear hn
  have hcQ : ¬ cap = Q := by omega
  go_enter Tryd.func38, Tryd.ntmps38
  go_wp2_with fail
  refine (rvget_good _ l _ ((unhide HV).below ((Below.refl _ _).alloc (Nat.le_refl _) _)) id Q (unhide Hhv)).mono ?_
  rintro e w1 ⟨rfl, hb1⟩
  have HB1 : Hid (Below w.heap.size w w1) := ((Below.refl _ _).alloc (Nat.le_refl _) _).trans (hb1.mono (by simp))
  have HD : Hid (Byt w1 (.slice (some ⟨b, off + Q, none⟩) (n - Q) (cap - Q)) (l.drop Q)) := by
    show Byt _ _ _
    have := ((unhide HV).below (unhide HB1)).drop' Q (by omega)
    rw [if_neg hcQ] at this; exact this
  have q0 : w1.cell? ⟨w.heap.size, 0, none⟩ = some (.int .i64 0) := (hb1.cell (p := ⟨w.heap.size, 0, none⟩) (by simp)).trans (by simp)
  have f0 : w1.frozen? ⟨w.heap.size, 0, none⟩ = false := (hb1.frozen (p := ⟨w.heap.size, 0, none⟩) (by simp)).trans (by simp)
  have q1 : w1.cell? ⟨w.heap.size, 1, none⟩ = some (.int .i64 0) := (hb1.cell (p := ⟨w.heap.size, 1, none⟩) (by simp)).trans (by simp)
  have f1 : w1.frozen? ⟨w.heap.size, 1, none⟩ = false := (hb1.frozen (p := ⟨w.heap.size, 1, none⟩) (by simp)).trans (by simp)
  have q2 : w1.cell? ⟨w.heap.size, 2, none⟩ = some (.string ⟨#[]⟩) := (hb1.cell (p := ⟨w.heap.size, 2, none⟩) (by simp)).trans (by simp)
  have f2 : w1.frozen? ⟨w.heap.size, 2, none⟩ = false := (hb1.frozen (p := ⟨w.heap.size, 2, none⟩) (by simp)).trans (by simp)
  have q3 : w1.cell? ⟨w.heap.size, 3, none⟩ = some (.string ⟨#[]⟩) := (hb1.cell (p := ⟨w.heap.size, 3, none⟩) (by simp)).trans (by simp)
  have f3 : w1.frozen? ⟨w.heap.size, 3, none⟩ = false := (hb1.frozen (p := ⟨w.heap.size, 3, none⟩) (by simp)).trans (by simp)
  have hl1 : w.heap.size < w1.heap.size := cell_lt q0
  have hne : ¬ w1.heap.size = w.heap.size := by omega
  clear hb1
  have hbl : b < w1.heap.size := (unhide HCB) w1 (unhide HD)
  have y0 : w1.cell? ⟨b, off + Q, none⟩ = some (.int .u8 x0) := by
    have := (unhide HCC) w1 (unhide HD) 0 (by omega)
    rw [unhide HX0] at this
    exact this
  have y1 : w1.cell? ⟨b, off + Q + 1, none⟩ = some (.int .u8 x1) := by
    have := (unhide HCC) w1 (unhide HD) 1 (by omega)
    rw [unhide HX1] at this
    exact this
  have y2 : w1.cell? ⟨b, off + Q + 2, none⟩ = some (.int .u8 x2) := by
    have := (unhide HCC) w1 (unhide HD) 2 (by omega)
    rw [unhide HX2] at this
    exact this
  have y3 : w1.cell? ⟨b, off + Q + 3, none⟩ = some (.int .u8 x3) := by
    have := (unhide HCC) w1 (unhide HD) 3 (by omega)
    rw [unhide HX3] at this
    exact this
  have ix0 : ((0 : Nat) : Int) < ((n - Q : Nat) : Int) := by omega
  have iy0 : (0 : Int) < ((n - Q : Nat) : Int) := by omega
  have iz0 : 0 < n - Q := by omega
  have ix1 : ((1 : Nat) : Int) < ((n - Q : Nat) : Int) := by omega
  have iy1 : (1 : Int) < ((n - Q : Nat) : Int) := by omega
  have iz1 : 1 < n - Q := by omega
  have ix2 : ((2 : Nat) : Int) < ((n - Q : Nat) : Int) := by omega
  have iy2 : (2 : Int) < ((n - Q : Nat) : Int) := by omega
  have iz2 : 2 < n - Q := by omega
  have ix3 : ((3 : Nat) : Int) < ((n - Q : Nat) : Int) := by omega
  have iy3 : (3 : Int) < ((n - Q : Nat) : Int) := by omega
  have iz3 : 3 < n - Q := by omega
  have hnb : ¬ b = w1.heap.size := by omega
  have e0 : bits .or .i64 0 x0 = x0 := V.or_zero x0 r0.1 (by omega)
  have e1 := or_256 (x0) x1 (by omega) (by omega) r1.1 r1.2
  have e2 := or_256 (x0 * 256 + x1) x2 (by omega) (by omega) r2.1 r2.2
  have e3 := or_256 ((x0 * 256 + x1) * 256 + x2) x3 (by omega) (by omega) r3.1 r3.2
  go_wp2_with (first | (go_at_call 39; refine (kind_tell id 4 (unhide HKD) _).mono ?_; rintro e w2 ⟨rfl, hw⟩; obtain rfl := hw.symm; clear hw) | fail)
  refine wp_loop_rounds 5 ?_
  rw [rounds_succ]
  go_wp2_with fail
  refine wp_region_noPanic ?_
  refine wp_region_held_drew (S := (fun w' => w'.cell? ⟨b, off + Q, none⟩ = some (.int .u8 x0))) (by kernel_rfl) (by go_keep) (fun hHeld => ?_)
  refine wpAnyH_take (i := 0) (oi := { dst := some 44, op := Op.fieldAddr 49 (Operand.tmp 7) 1, type := 0, pos := "dovecoteref3.go:179", after := #[], guard := none }) (v := ?v28) rfl (by kernel_rfl) (by kernel_rfl) (by kernel_rfl) (fun _ _ _ h => h) (Or.inl ⟨by rfl, ?hy28⟩) (by assumption) ?rest28
  case hy28 => (intro w hSw; (try dsimp only at hSw); go_simp; (try rw [if_pos (by omega)]); (try with_reducible rfl))
  simp only [Act.put, List.setIfInBounds_toArray, List.set_cons_zero, List.set_cons_succ]
  refine wpAnyH_take (i := 3) (oi := { dst := some 47, op := Op.move (Operand.tmp 0), type := 24, pos := "dovecoteref3.go:179", after := #[], guard := none }) (v := ?v29) rfl (by kernel_rfl) (by kernel_rfl) (by kernel_rfl) (fun _ _ _ h => h) (Or.inl ⟨by rfl, ?hy29⟩) (by assumption) ?rest29
  case hy29 => (intro w hSw; (try dsimp only at hSw); go_simp; (try rw [if_pos (by omega)]); (try with_reducible rfl))
  simp only [Act.put, List.setIfInBounds_toArray, List.set_cons_zero, List.set_cons_succ]
  refine wpAnyH_take (i := 4) (oi := { dst := some 48, op := Op.move (Operand.tmp 9), type := 3, pos := "dovecoteref3.go:179", after := #[], guard := none }) (v := ?v30) rfl (by kernel_rfl) (by kernel_rfl) (by kernel_rfl) (fun _ _ _ h => h) (Or.inl ⟨by rfl, ?hy30⟩) (by assumption) ?rest30
  case hy30 => (intro w hSw; (try dsimp only at hSw); go_simp; (try rw [if_pos (by omega)]); (try with_reducible rfl))
  simp only [Act.put, List.setIfInBounds_toArray, List.set_cons_zero, List.set_cons_succ]
  refine wpAnyH_take (i := 5) (oi := { dst := some 49, op := Op.indexAddr 24 (Operand.tmp 47) (Operand.tmp 48), type := 0, pos := "dovecoteref3.go:179", after := #[{ on := 3, ground := Ground.data }, { on := 4, ground := Ground.data }], guard := none }) (v := ?v31) rfl (by kernel_rfl) (by kernel_rfl) (by kernel_rfl) (fun _ _ _ h => h) (Or.inl ⟨by rfl, ?hy31⟩) (by assumption) ?rest31
  case hy31 => (intro w hSw; (try dsimp only at hSw); go_simp; (try rw [if_pos (by omega)]); (try with_reducible rfl))
  simp only [Act.put, List.setIfInBounds_toArray, List.set_cons_zero, List.set_cons_succ]
  refine wpAnyH_take (i := 6) (oi := { dst := some 50, op := Op.load 5 (Operand.tmp 49), type := 5, pos := "dovecoteref3.go:179", after := #[{ on := 5, ground := Ground.data }], guard := none }) (v := ?v32) rfl (by kernel_rfl) (by kernel_rfl) (by kernel_rfl) (fun _ _ _ h => h) (Or.inl ⟨by rfl, ?hy32⟩) (by assumption) ?rest32
  case hy32 => (intro w hSw; (try dsimp only at hSw); go_simp; (try rw [if_pos (by omega)]); (try with_reducible rfl))
  simp only [Act.put, List.setIfInBounds_toArray, List.set_cons_zero, List.set_cons_succ]
  refine wpAnyH_take (i := 7) (oi := { dst := some 51, op := Op.convert 5 3 (Operand.tmp 50), type := 3, pos := "dovecoteref3.go:179", after := #[{ on := 6, ground := Ground.data }], guard := none }) (v := ?v33) rfl (by kernel_rfl) (by kernel_rfl) (by kernel_rfl) (fun _ _ _ h => h) (Or.inl ⟨by rfl, ?hy33⟩) (by assumption) ?rest33
  case hy33 => (intro w hSw; (try dsimp only at hSw); go_simp; (try rw [if_pos (by omega)]); (try with_reducible rfl))
  simp only [Act.put, List.setIfInBounds_toArray, List.set_cons_zero, List.set_cons_succ]
  refine wpAnyH_ready (rs := [1]) (by kernel_rfl) (by simp) ?_
  refine AllReadyH.cons (o := { dst := some 45, op := Op.load 3 (Operand.tmp 44), type := 3, pos := "dovecoteref3.go:179", after := #[{ on := 0, ground := Ground.data }], guard := none }) rfl (fun K hK => ?_) AllReadyH.nil
  go_simp
  refine hK.out _ _ (by go_keep) (fun hHeld => ?_)
  clear hK K
  refine wpAnyH_take (i := 2) (oi := { dst := some 46, op := Op.binOp BinOp.shl 3 (Operand.tmp 45) (Operand.const (Value.int IntKind.u64 8)) 51, type := 3, pos := "dovecoteref3.go:179", after := #[{ on := 1, ground := Ground.data }], guard := none }) (v := ?v34) rfl (by kernel_rfl) (by kernel_rfl) (by kernel_rfl) (fun _ _ _ h => h) (Or.inl ⟨by rfl, ?hy34⟩) (by assumption) ?rest34
  case hy34 => (intro w hSw; (try dsimp only at hSw); go_simp; (try rw [if_pos (by omega)]); (try with_reducible rfl))
  simp only [Act.put, List.setIfInBounds_toArray, List.set_cons_zero, List.set_cons_succ]
  refine wpAnyH_take (i := 8) (oi := { dst := some 52, op := Op.binOp BinOp.or 3 (Operand.tmp 46) (Operand.tmp 51) 3, type := 3, pos := "dovecoteref3.go:179", after := #[{ on := 2, ground := Ground.data }, { on := 7, ground := Ground.data }], guard := none }) (v := ?v35) rfl (by kernel_rfl) (by kernel_rfl) (by kernel_rfl) (fun _ _ _ h => h) (Or.inl ⟨by rfl, ?hy35⟩) (by assumption) ?rest35
  case hy35 => (intro w hSw; (try dsimp only at hSw); go_simp; (try rw [if_pos (by omega)]); (try with_reducible rfl))
  simp only [Act.put, List.setIfInBounds_toArray, List.set_cons_zero, List.set_cons_succ]
  refine wpAnyH_take (i := 9) (oi := { dst := some 53, op := Op.fieldAddr 49 (Operand.tmp 7) 1, type := 0, pos := "dovecoteref3.go:179", after := #[{ on := 0, ground := Ground.phase }, { on := 1, ground := Ground.phase }, { on := 2, ground := Ground.phase }, { on := 3, ground := Ground.phase }, { on := 4, ground := Ground.phase }, { on := 5, ground := Ground.phase }, { on := 6, ground := Ground.phase }, { on := 7, ground := Ground.phase }, { on := 8, ground := Ground.phase }], guard := none }) (v := ?v36) rfl (by kernel_rfl) (by kernel_rfl) (by kernel_rfl) (fun _ _ _ h => h) (Or.inl ⟨by rfl, ?hy36⟩) (by assumption) ?rest36
  case hy36 => (intro w hSw; (try dsimp only at hSw); go_simp; (try rw [if_pos (by omega)]); (try with_reducible rfl))
  simp only [Act.put, List.setIfInBounds_toArray, List.set_cons_zero, List.set_cons_succ]
  refine wpAnyH_ready (rs := [10]) (by kernel_rfl) (by simp) ?_
  refine AllReadyH.cons (o := { dst := none, op := Op.store 3 (Operand.tmp 53) (Operand.tmp 52), type := 0, pos := "dovecoteref3.go:179", after := #[{ on := 9, ground := Ground.data }, { on := 8, ground := Ground.data }, { on := 0, ground := Ground.phase }, { on := 1, ground := Ground.phase }, { on := 2, ground := Ground.phase }, { on := 3, ground := Ground.phase }, { on := 4, ground := Ground.phase }, { on := 5, ground := Ground.phase }, { on := 6, ground := Ground.phase }, { on := 7, ground := Ground.phase }, { on := 8, ground := Ground.phase }], guard := none }) rfl (fun K hK => ?_) AllReadyH.nil
  go_simp
  refine hK.out _ _ (by go_keep) (fun hHeld => ?_)
  clear hK K
  refine wpAnyH_done (by kernel_rfl) ?_ _
  refine NoPanic.normal ?_
  go_wp2_with fail
  rw [rounds_succ]
  go_wp2_with fail
  refine wp_region_noPanic ?_
  refine wp_region_held_drew (S := (fun w' => w'.cell? ⟨b, off + Q + 1, none⟩ = some (.int .u8 x1))) (by kernel_rfl) (by go_keep) (fun hHeld => ?_)
  refine wpAnyH_take (i := 0) (oi := { dst := some 44, op := Op.fieldAddr 49 (Operand.tmp 7) 1, type := 0, pos := "dovecoteref3.go:179", after := #[], guard := none }) (v := ?v37) rfl (by kernel_rfl) (by kernel_rfl) (by kernel_rfl) (fun _ _ _ h => h) (Or.inl ⟨by rfl, ?hy37⟩) (by assumption) ?rest37
  case hy37 => (intro w hSw; (try dsimp only at hSw); go_simp; (try rw [if_pos (by omega)]); (try with_reducible rfl))
  simp only [Act.put, List.setIfInBounds_toArray, List.set_cons_zero, List.set_cons_succ]
  refine wpAnyH_take (i := 3) (oi := { dst := some 47, op := Op.move (Operand.tmp 0), type := 24, pos := "dovecoteref3.go:179", after := #[], guard := none }) (v := ?v38) rfl (by kernel_rfl) (by kernel_rfl) (by kernel_rfl) (fun _ _ _ h => h) (Or.inl ⟨by rfl, ?hy38⟩) (by assumption) ?rest38
  case hy38 => (intro w hSw; (try dsimp only at hSw); go_simp; (try rw [if_pos (by omega)]); (try with_reducible rfl))
  simp only [Act.put, List.setIfInBounds_toArray, List.set_cons_zero, List.set_cons_succ]
  refine wpAnyH_take (i := 4) (oi := { dst := some 48, op := Op.move (Operand.tmp 9), type := 3, pos := "dovecoteref3.go:179", after := #[], guard := none }) (v := ?v39) rfl (by kernel_rfl) (by kernel_rfl) (by kernel_rfl) (fun _ _ _ h => h) (Or.inl ⟨by rfl, ?hy39⟩) (by assumption) ?rest39
  case hy39 => (intro w hSw; (try dsimp only at hSw); go_simp; (try rw [if_pos (by omega)]); (try with_reducible rfl))
  simp only [Act.put, List.setIfInBounds_toArray, List.set_cons_zero, List.set_cons_succ]
  refine wpAnyH_take (i := 5) (oi := { dst := some 49, op := Op.indexAddr 24 (Operand.tmp 47) (Operand.tmp 48), type := 0, pos := "dovecoteref3.go:179", after := #[{ on := 3, ground := Ground.data }, { on := 4, ground := Ground.data }], guard := none }) (v := ?v40) rfl (by kernel_rfl) (by kernel_rfl) (by kernel_rfl) (fun _ _ _ h => h) (Or.inl ⟨by rfl, ?hy40⟩) (by assumption) ?rest40
  case hy40 => (intro w hSw; (try dsimp only at hSw); go_simp; (try rw [if_pos (by omega)]); (try with_reducible rfl))
  simp only [Act.put, List.setIfInBounds_toArray, List.set_cons_zero, List.set_cons_succ]
  refine wpAnyH_take (i := 6) (oi := { dst := some 50, op := Op.load 5 (Operand.tmp 49), type := 5, pos := "dovecoteref3.go:179", after := #[{ on := 5, ground := Ground.data }], guard := none }) (v := ?v41) rfl (by kernel_rfl) (by kernel_rfl) (by kernel_rfl) (fun _ _ _ h => h) (Or.inl ⟨by rfl, ?hy41⟩) (by assumption) ?rest41
  case hy41 => (intro w hSw; (try dsimp only at hSw); go_simp; (try rw [if_pos (by omega)]); (try with_reducible rfl))
  simp only [Act.put, List.setIfInBounds_toArray, List.set_cons_zero, List.set_cons_succ]
  refine wpAnyH_take (i := 7) (oi := { dst := some 51, op := Op.convert 5 3 (Operand.tmp 50), type := 3, pos := "dovecoteref3.go:179", after := #[{ on := 6, ground := Ground.data }], guard := none }) (v := ?v42) rfl (by kernel_rfl) (by kernel_rfl) (by kernel_rfl) (fun _ _ _ h => h) (Or.inl ⟨by rfl, ?hy42⟩) (by assumption) ?rest42
  case hy42 => (intro w hSw; (try dsimp only at hSw); go_simp; (try rw [if_pos (by omega)]); (try with_reducible rfl))
  simp only [Act.put, List.setIfInBounds_toArray, List.set_cons_zero, List.set_cons_succ]
  refine wpAnyH_ready (rs := [1]) (by kernel_rfl) (by simp) ?_
  refine AllReadyH.cons (o := { dst := some 45, op := Op.load 3 (Operand.tmp 44), type := 3, pos := "dovecoteref3.go:179", after := #[{ on := 0, ground := Ground.data }], guard := none }) rfl (fun K hK => ?_) AllReadyH.nil
  go_simp
  refine hK.out _ _ (by go_keep) (fun hHeld => ?_)
  clear hK K
  refine wpAnyH_take (i := 2) (oi := { dst := some 46, op := Op.binOp BinOp.shl 3 (Operand.tmp 45) (Operand.const (Value.int IntKind.u64 8)) 51, type := 3, pos := "dovecoteref3.go:179", after := #[{ on := 1, ground := Ground.data }], guard := none }) (v := ?v43) rfl (by kernel_rfl) (by kernel_rfl) (by kernel_rfl) (fun _ _ _ h => h) (Or.inl ⟨by rfl, ?hy43⟩) (by assumption) ?rest43
  case hy43 => (intro w hSw; (try dsimp only at hSw); go_simp; (try rw [if_pos (by omega)]); (try with_reducible rfl))
  simp only [Act.put, List.setIfInBounds_toArray, List.set_cons_zero, List.set_cons_succ]
  refine wpAnyH_take (i := 8) (oi := { dst := some 52, op := Op.binOp BinOp.or 3 (Operand.tmp 46) (Operand.tmp 51) 3, type := 3, pos := "dovecoteref3.go:179", after := #[{ on := 2, ground := Ground.data }, { on := 7, ground := Ground.data }], guard := none }) (v := ?v44) rfl (by kernel_rfl) (by kernel_rfl) (by kernel_rfl) (fun _ _ _ h => h) (Or.inl ⟨by rfl, ?hy44⟩) (by assumption) ?rest44
  case hy44 => (intro w hSw; (try dsimp only at hSw); go_simp; (try rw [if_pos (by omega)]); (try with_reducible rfl))
  simp only [Act.put, List.setIfInBounds_toArray, List.set_cons_zero, List.set_cons_succ]
  refine wpAnyH_take (i := 9) (oi := { dst := some 53, op := Op.fieldAddr 49 (Operand.tmp 7) 1, type := 0, pos := "dovecoteref3.go:179", after := #[{ on := 0, ground := Ground.phase }, { on := 1, ground := Ground.phase }, { on := 2, ground := Ground.phase }, { on := 3, ground := Ground.phase }, { on := 4, ground := Ground.phase }, { on := 5, ground := Ground.phase }, { on := 6, ground := Ground.phase }, { on := 7, ground := Ground.phase }, { on := 8, ground := Ground.phase }], guard := none }) (v := ?v45) rfl (by kernel_rfl) (by kernel_rfl) (by kernel_rfl) (fun _ _ _ h => h) (Or.inl ⟨by rfl, ?hy45⟩) (by assumption) ?rest45
  case hy45 => (intro w hSw; (try dsimp only at hSw); go_simp; (try rw [if_pos (by omega)]); (try with_reducible rfl))
  simp only [Act.put, List.setIfInBounds_toArray, List.set_cons_zero, List.set_cons_succ]
  refine wpAnyH_ready (rs := [10]) (by kernel_rfl) (by simp) ?_
  refine AllReadyH.cons (o := { dst := none, op := Op.store 3 (Operand.tmp 53) (Operand.tmp 52), type := 0, pos := "dovecoteref3.go:179", after := #[{ on := 9, ground := Ground.data }, { on := 8, ground := Ground.data }, { on := 0, ground := Ground.phase }, { on := 1, ground := Ground.phase }, { on := 2, ground := Ground.phase }, { on := 3, ground := Ground.phase }, { on := 4, ground := Ground.phase }, { on := 5, ground := Ground.phase }, { on := 6, ground := Ground.phase }, { on := 7, ground := Ground.phase }, { on := 8, ground := Ground.phase }], guard := none }) rfl (fun K hK => ?_) AllReadyH.nil
  go_simp
  refine hK.out _ _ (by go_keep) (fun hHeld => ?_)
  clear hK K
  refine wpAnyH_done (by kernel_rfl) ?_ _
  refine NoPanic.normal ?_
  go_wp2_with fail
  rw [rounds_succ]
  go_wp2_with fail
  refine wp_region_noPanic ?_
  refine wp_region_held_drew (S := (fun w' => w'.cell? ⟨b, off + Q + 2, none⟩ = some (.int .u8 x2))) (by kernel_rfl) (by go_keep) (fun hHeld => ?_)
  refine wpAnyH_take (i := 0) (oi := { dst := some 44, op := Op.fieldAddr 49 (Operand.tmp 7) 1, type := 0, pos := "dovecoteref3.go:179", after := #[], guard := none }) (v := ?v46) rfl (by kernel_rfl) (by kernel_rfl) (by kernel_rfl) (fun _ _ _ h => h) (Or.inl ⟨by rfl, ?hy46⟩) (by assumption) ?rest46
  case hy46 => (intro w hSw; (try dsimp only at hSw); go_simp; (try rw [if_pos (by omega)]); (try with_reducible rfl))
  simp only [Act.put, List.setIfInBounds_toArray, List.set_cons_zero, List.set_cons_succ]
  refine wpAnyH_take (i := 3) (oi := { dst := some 47, op := Op.move (Operand.tmp 0), type := 24, pos := "dovecoteref3.go:179", after := #[], guard := none }) (v := ?v47) rfl (by kernel_rfl) (by kernel_rfl) (by kernel_rfl) (fun _ _ _ h => h) (Or.inl ⟨by rfl, ?hy47⟩) (by assumption) ?rest47
  case hy47 => (intro w hSw; (try dsimp only at hSw); go_simp; (try rw [if_pos (by omega)]); (try with_reducible rfl))
  simp only [Act.put, List.setIfInBounds_toArray, List.set_cons_zero, List.set_cons_succ]
  refine wpAnyH_take (i := 4) (oi := { dst := some 48, op := Op.move (Operand.tmp 9), type := 3, pos := "dovecoteref3.go:179", after := #[], guard := none }) (v := ?v48) rfl (by kernel_rfl) (by kernel_rfl) (by kernel_rfl) (fun _ _ _ h => h) (Or.inl ⟨by rfl, ?hy48⟩) (by assumption) ?rest48
  case hy48 => (intro w hSw; (try dsimp only at hSw); go_simp; (try rw [if_pos (by omega)]); (try with_reducible rfl))
  simp only [Act.put, List.setIfInBounds_toArray, List.set_cons_zero, List.set_cons_succ]
  refine wpAnyH_take (i := 5) (oi := { dst := some 49, op := Op.indexAddr 24 (Operand.tmp 47) (Operand.tmp 48), type := 0, pos := "dovecoteref3.go:179", after := #[{ on := 3, ground := Ground.data }, { on := 4, ground := Ground.data }], guard := none }) (v := ?v49) rfl (by kernel_rfl) (by kernel_rfl) (by kernel_rfl) (fun _ _ _ h => h) (Or.inl ⟨by rfl, ?hy49⟩) (by assumption) ?rest49
  case hy49 => (intro w hSw; (try dsimp only at hSw); go_simp; (try rw [if_pos (by omega)]); (try with_reducible rfl))
  simp only [Act.put, List.setIfInBounds_toArray, List.set_cons_zero, List.set_cons_succ]
  refine wpAnyH_take (i := 6) (oi := { dst := some 50, op := Op.load 5 (Operand.tmp 49), type := 5, pos := "dovecoteref3.go:179", after := #[{ on := 5, ground := Ground.data }], guard := none }) (v := ?v50) rfl (by kernel_rfl) (by kernel_rfl) (by kernel_rfl) (fun _ _ _ h => h) (Or.inl ⟨by rfl, ?hy50⟩) (by assumption) ?rest50
  case hy50 => (intro w hSw; (try dsimp only at hSw); go_simp; (try rw [if_pos (by omega)]); (try with_reducible rfl))
  simp only [Act.put, List.setIfInBounds_toArray, List.set_cons_zero, List.set_cons_succ]
  refine wpAnyH_take (i := 7) (oi := { dst := some 51, op := Op.convert 5 3 (Operand.tmp 50), type := 3, pos := "dovecoteref3.go:179", after := #[{ on := 6, ground := Ground.data }], guard := none }) (v := ?v51) rfl (by kernel_rfl) (by kernel_rfl) (by kernel_rfl) (fun _ _ _ h => h) (Or.inl ⟨by rfl, ?hy51⟩) (by assumption) ?rest51
  case hy51 => (intro w hSw; (try dsimp only at hSw); go_simp; (try rw [if_pos (by omega)]); (try with_reducible rfl))
  simp only [Act.put, List.setIfInBounds_toArray, List.set_cons_zero, List.set_cons_succ]
  refine wpAnyH_ready (rs := [1]) (by kernel_rfl) (by simp) ?_
  refine AllReadyH.cons (o := { dst := some 45, op := Op.load 3 (Operand.tmp 44), type := 3, pos := "dovecoteref3.go:179", after := #[{ on := 0, ground := Ground.data }], guard := none }) rfl (fun K hK => ?_) AllReadyH.nil
  go_simp
  refine hK.out _ _ (by go_keep) (fun hHeld => ?_)
  clear hK K
  refine wpAnyH_take (i := 2) (oi := { dst := some 46, op := Op.binOp BinOp.shl 3 (Operand.tmp 45) (Operand.const (Value.int IntKind.u64 8)) 51, type := 3, pos := "dovecoteref3.go:179", after := #[{ on := 1, ground := Ground.data }], guard := none }) (v := ?v52) rfl (by kernel_rfl) (by kernel_rfl) (by kernel_rfl) (fun _ _ _ h => h) (Or.inl ⟨by rfl, ?hy52⟩) (by assumption) ?rest52
  case hy52 => (intro w hSw; (try dsimp only at hSw); go_simp; (try rw [if_pos (by omega)]); (try with_reducible rfl))
  simp only [Act.put, List.setIfInBounds_toArray, List.set_cons_zero, List.set_cons_succ]
  refine wpAnyH_take (i := 8) (oi := { dst := some 52, op := Op.binOp BinOp.or 3 (Operand.tmp 46) (Operand.tmp 51) 3, type := 3, pos := "dovecoteref3.go:179", after := #[{ on := 2, ground := Ground.data }, { on := 7, ground := Ground.data }], guard := none }) (v := ?v53) rfl (by kernel_rfl) (by kernel_rfl) (by kernel_rfl) (fun _ _ _ h => h) (Or.inl ⟨by rfl, ?hy53⟩) (by assumption) ?rest53
  case hy53 => (intro w hSw; (try dsimp only at hSw); go_simp; (try rw [if_pos (by omega)]); (try with_reducible rfl))
  simp only [Act.put, List.setIfInBounds_toArray, List.set_cons_zero, List.set_cons_succ]
  refine wpAnyH_take (i := 9) (oi := { dst := some 53, op := Op.fieldAddr 49 (Operand.tmp 7) 1, type := 0, pos := "dovecoteref3.go:179", after := #[{ on := 0, ground := Ground.phase }, { on := 1, ground := Ground.phase }, { on := 2, ground := Ground.phase }, { on := 3, ground := Ground.phase }, { on := 4, ground := Ground.phase }, { on := 5, ground := Ground.phase }, { on := 6, ground := Ground.phase }, { on := 7, ground := Ground.phase }, { on := 8, ground := Ground.phase }], guard := none }) (v := ?v54) rfl (by kernel_rfl) (by kernel_rfl) (by kernel_rfl) (fun _ _ _ h => h) (Or.inl ⟨by rfl, ?hy54⟩) (by assumption) ?rest54
  case hy54 => (intro w hSw; (try dsimp only at hSw); go_simp; (try rw [if_pos (by omega)]); (try with_reducible rfl))
  simp only [Act.put, List.setIfInBounds_toArray, List.set_cons_zero, List.set_cons_succ]
  refine wpAnyH_ready (rs := [10]) (by kernel_rfl) (by simp) ?_
  refine AllReadyH.cons (o := { dst := none, op := Op.store 3 (Operand.tmp 53) (Operand.tmp 52), type := 0, pos := "dovecoteref3.go:179", after := #[{ on := 9, ground := Ground.data }, { on := 8, ground := Ground.data }, { on := 0, ground := Ground.phase }, { on := 1, ground := Ground.phase }, { on := 2, ground := Ground.phase }, { on := 3, ground := Ground.phase }, { on := 4, ground := Ground.phase }, { on := 5, ground := Ground.phase }, { on := 6, ground := Ground.phase }, { on := 7, ground := Ground.phase }, { on := 8, ground := Ground.phase }], guard := none }) rfl (fun K hK => ?_) AllReadyH.nil
  go_simp
  refine hK.out _ _ (by go_keep) (fun hHeld => ?_)
  clear hK K
  refine wpAnyH_done (by kernel_rfl) ?_ _
  refine NoPanic.normal ?_
  go_wp2_with fail
  rw [rounds_succ]
  go_wp2_with fail
  refine wp_region_noPanic ?_
  refine wp_region_held_drew (S := (fun w' => w'.cell? ⟨b, off + Q + 3, none⟩ = some (.int .u8 x3))) (by kernel_rfl) (by go_keep) (fun hHeld => ?_)
  refine wpAnyH_take (i := 0) (oi := { dst := some 44, op := Op.fieldAddr 49 (Operand.tmp 7) 1, type := 0, pos := "dovecoteref3.go:179", after := #[], guard := none }) (v := ?v55) rfl (by kernel_rfl) (by kernel_rfl) (by kernel_rfl) (fun _ _ _ h => h) (Or.inl ⟨by rfl, ?hy55⟩) (by assumption) ?rest55
  case hy55 => (intro w hSw; (try dsimp only at hSw); go_simp; (try rw [if_pos (by omega)]); (try with_reducible rfl))
  simp only [Act.put, List.setIfInBounds_toArray, List.set_cons_zero, List.set_cons_succ]
  refine wpAnyH_take (i := 3) (oi := { dst := some 47, op := Op.move (Operand.tmp 0), type := 24, pos := "dovecoteref3.go:179", after := #[], guard := none }) (v := ?v56) rfl (by kernel_rfl) (by kernel_rfl) (by kernel_rfl) (fun _ _ _ h => h) (Or.inl ⟨by rfl, ?hy56⟩) (by assumption) ?rest56
  case hy56 => (intro w hSw; (try dsimp only at hSw); go_simp; (try rw [if_pos (by omega)]); (try with_reducible rfl))
  simp only [Act.put, List.setIfInBounds_toArray, List.set_cons_zero, List.set_cons_succ]
  refine wpAnyH_take (i := 4) (oi := { dst := some 48, op := Op.move (Operand.tmp 9), type := 3, pos := "dovecoteref3.go:179", after := #[], guard := none }) (v := ?v57) rfl (by kernel_rfl) (by kernel_rfl) (by kernel_rfl) (fun _ _ _ h => h) (Or.inl ⟨by rfl, ?hy57⟩) (by assumption) ?rest57
  case hy57 => (intro w hSw; (try dsimp only at hSw); go_simp; (try rw [if_pos (by omega)]); (try with_reducible rfl))
  simp only [Act.put, List.setIfInBounds_toArray, List.set_cons_zero, List.set_cons_succ]
  refine wpAnyH_take (i := 5) (oi := { dst := some 49, op := Op.indexAddr 24 (Operand.tmp 47) (Operand.tmp 48), type := 0, pos := "dovecoteref3.go:179", after := #[{ on := 3, ground := Ground.data }, { on := 4, ground := Ground.data }], guard := none }) (v := ?v58) rfl (by kernel_rfl) (by kernel_rfl) (by kernel_rfl) (fun _ _ _ h => h) (Or.inl ⟨by rfl, ?hy58⟩) (by assumption) ?rest58
  case hy58 => (intro w hSw; (try dsimp only at hSw); go_simp; (try rw [if_pos (by omega)]); (try with_reducible rfl))
  simp only [Act.put, List.setIfInBounds_toArray, List.set_cons_zero, List.set_cons_succ]
  refine wpAnyH_take (i := 6) (oi := { dst := some 50, op := Op.load 5 (Operand.tmp 49), type := 5, pos := "dovecoteref3.go:179", after := #[{ on := 5, ground := Ground.data }], guard := none }) (v := ?v59) rfl (by kernel_rfl) (by kernel_rfl) (by kernel_rfl) (fun _ _ _ h => h) (Or.inl ⟨by rfl, ?hy59⟩) (by assumption) ?rest59
  case hy59 => (intro w hSw; (try dsimp only at hSw); go_simp; (try rw [if_pos (by omega)]); (try with_reducible rfl))
  simp only [Act.put, List.setIfInBounds_toArray, List.set_cons_zero, List.set_cons_succ]
  refine wpAnyH_take (i := 7) (oi := { dst := some 51, op := Op.convert 5 3 (Operand.tmp 50), type := 3, pos := "dovecoteref3.go:179", after := #[{ on := 6, ground := Ground.data }], guard := none }) (v := ?v60) rfl (by kernel_rfl) (by kernel_rfl) (by kernel_rfl) (fun _ _ _ h => h) (Or.inl ⟨by rfl, ?hy60⟩) (by assumption) ?rest60
  case hy60 => (intro w hSw; (try dsimp only at hSw); go_simp; (try rw [if_pos (by omega)]); (try with_reducible rfl))
  simp only [Act.put, List.setIfInBounds_toArray, List.set_cons_zero, List.set_cons_succ]
  refine wpAnyH_ready (rs := [1]) (by kernel_rfl) (by simp) ?_
  refine AllReadyH.cons (o := { dst := some 45, op := Op.load 3 (Operand.tmp 44), type := 3, pos := "dovecoteref3.go:179", after := #[{ on := 0, ground := Ground.data }], guard := none }) rfl (fun K hK => ?_) AllReadyH.nil
  go_simp
  refine hK.out _ _ (by go_keep) (fun hHeld => ?_)
  clear hK K
  refine wpAnyH_take (i := 2) (oi := { dst := some 46, op := Op.binOp BinOp.shl 3 (Operand.tmp 45) (Operand.const (Value.int IntKind.u64 8)) 51, type := 3, pos := "dovecoteref3.go:179", after := #[{ on := 1, ground := Ground.data }], guard := none }) (v := ?v61) rfl (by kernel_rfl) (by kernel_rfl) (by kernel_rfl) (fun _ _ _ h => h) (Or.inl ⟨by rfl, ?hy61⟩) (by assumption) ?rest61
  case hy61 => (intro w hSw; (try dsimp only at hSw); go_simp; (try rw [if_pos (by omega)]); (try with_reducible rfl))
  simp only [Act.put, List.setIfInBounds_toArray, List.set_cons_zero, List.set_cons_succ]
  refine wpAnyH_take (i := 8) (oi := { dst := some 52, op := Op.binOp BinOp.or 3 (Operand.tmp 46) (Operand.tmp 51) 3, type := 3, pos := "dovecoteref3.go:179", after := #[{ on := 2, ground := Ground.data }, { on := 7, ground := Ground.data }], guard := none }) (v := ?v62) rfl (by kernel_rfl) (by kernel_rfl) (by kernel_rfl) (fun _ _ _ h => h) (Or.inl ⟨by rfl, ?hy62⟩) (by assumption) ?rest62
  case hy62 => (intro w hSw; (try dsimp only at hSw); go_simp; (try rw [if_pos (by omega)]); (try with_reducible rfl))
  simp only [Act.put, List.setIfInBounds_toArray, List.set_cons_zero, List.set_cons_succ]
  refine wpAnyH_take (i := 9) (oi := { dst := some 53, op := Op.fieldAddr 49 (Operand.tmp 7) 1, type := 0, pos := "dovecoteref3.go:179", after := #[{ on := 0, ground := Ground.phase }, { on := 1, ground := Ground.phase }, { on := 2, ground := Ground.phase }, { on := 3, ground := Ground.phase }, { on := 4, ground := Ground.phase }, { on := 5, ground := Ground.phase }, { on := 6, ground := Ground.phase }, { on := 7, ground := Ground.phase }, { on := 8, ground := Ground.phase }], guard := none }) (v := ?v63) rfl (by kernel_rfl) (by kernel_rfl) (by kernel_rfl) (fun _ _ _ h => h) (Or.inl ⟨by rfl, ?hy63⟩) (by assumption) ?rest63
  case hy63 => (intro w hSw; (try dsimp only at hSw); go_simp; (try rw [if_pos (by omega)]); (try with_reducible rfl))
  simp only [Act.put, List.setIfInBounds_toArray, List.set_cons_zero, List.set_cons_succ]
  refine wpAnyH_ready (rs := [10]) (by kernel_rfl) (by simp) ?_
  refine AllReadyH.cons (o := { dst := none, op := Op.store 3 (Operand.tmp 53) (Operand.tmp 52), type := 0, pos := "dovecoteref3.go:179", after := #[{ on := 9, ground := Ground.data }, { on := 8, ground := Ground.data }, { on := 0, ground := Ground.phase }, { on := 1, ground := Ground.phase }, { on := 2, ground := Ground.phase }, { on := 3, ground := Ground.phase }, { on := 4, ground := Ground.phase }, { on := 5, ground := Ground.phase }, { on := 6, ground := Ground.phase }, { on := 7, ground := Ground.phase }, { on := 8, ground := Ground.phase }], guard := none }) rfl (fun K hK => ?_) AllReadyH.nil
  go_simp
  refine hK.out _ _ (by go_keep) (fun hHeld => ?_)
  clear hK K
  refine wpAnyH_done (by kernel_rfl) ?_ _
  refine NoPanic.normal ?_
  go_wp2_with fail
  rw [rounds_succ]
  go_wp2
  (try simp only [Exit.inBlock, Exit.then])
  refine bodyPost_ret (res_p2 (B := w.heap.size) (v0 := .int .i64 id) (v1 := .int .i64 (((x0 * 256 + x1) * 256 + x2) * 256 + x3)) (v2 := .string ⟨#[]⟩) (v3 := .string ⟨#[]⟩) rfl rfl ?c0 ?c1 ?c2 ?c3) rfl ?_
  case c0 => simp only [World.cell?_drew]; rw [World.cell?_alloc_lt _ _ _ (by simpa using hl1)]; simp (maxDischargeDepth := 12) [cell_set, q0]
  case c1 => simp only [World.cell?_drew]; rw [World.cell?_alloc_lt _ _ _ (by simpa using hl1)]; simp (maxDischargeDepth := 12) [cell_set, q1]
  case c2 => simp only [World.cell?_drew]; rw [World.cell?_alloc_lt _ _ _ (by simpa using hl1)]; simp (maxDischargeDepth := 12) [cell_set, q2]
  case c3 => simp only [World.cell?_drew]; rw [World.cell?_alloc_lt _ _ _ (by simpa using hl1)]; simp (maxDischargeDepth := 12) [cell_set, q3]
  refine ⟨?_, by have := unhide HB1; go_grown⟩
  rw [unhide HBE]
  go_num
set_option maxHeartbeats 2000000 in
theorem rg_num4_bad (v : Value) (l : List Int) (w : World) (h : Byt w v l) (id : Int) (Q : Nat) (hv : V.vget l = (id, (Q : Int), 0)) (hQ : 1 ≤ Q ∧ Q ≤ l.length) (hQ4 : Q ≤ 4) (hk : kd id = 4) (hM2 : l.length < Q + 4) : Calls Tryd.prog 38 #[v] w (RgBad w) := by
  obtain ⟨b, off, cap, rfl, hc1, hc2⟩ := h.form1 (by omega)
  unfold maxLen at hc2
  have HV := hide h
  have Hhv := hide hv
  have HKD := hide hk
  clear h hv hk 
  generalize hn : l.length = n at hc1 hQ HV hM2
  have HN := hide hn
  clear hn
  by_cases hcQ : cap = Q
  · have e1 : Q = cap := hcQ.symm
    clear hcQ
    subst e1
    have e2 : Q = n := by omega
    subst e2
    go_enter Tryd.func38, Tryd.ntmps38
    go_wp2_with fail
    refine (rvget_good _ l _ ((unhide HV).below ((Below.refl _ _).alloc (Nat.le_refl _) _)) id Q (unhide Hhv)).mono ?_
    rintro e w1 ⟨rfl, hb1⟩
    have HB1 : Hid (Below w.heap.size w w1) := ((Below.refl _ _).alloc (Nat.le_refl _) _).trans (hb1.mono (by simp))
    have HD : Hid (Byt w1 (.slice (some ⟨b, off, none⟩) 0 0) (l.drop Q)) := by
      show Byt _ _ _
      have := ((unhide HV).below (unhide HB1)).drop' Q (by omega)
      rw [if_pos rfl, Nat.sub_self] at this; exact this
    have q0 : w1.cell? ⟨w.heap.size, 0, none⟩ = some (.int .i64 0) := (hb1.cell (p := ⟨w.heap.size, 0, none⟩) (by simp)).trans (by simp)
    have f0 : w1.frozen? ⟨w.heap.size, 0, none⟩ = false := (hb1.frozen (p := ⟨w.heap.size, 0, none⟩) (by simp)).trans (by simp)
    have q1 : w1.cell? ⟨w.heap.size, 1, none⟩ = some (.int .i64 0) := (hb1.cell (p := ⟨w.heap.size, 1, none⟩) (by simp)).trans (by simp)
    have f1 : w1.frozen? ⟨w.heap.size, 1, none⟩ = false := (hb1.frozen (p := ⟨w.heap.size, 1, none⟩) (by simp)).trans (by simp)
    have q2 : w1.cell? ⟨w.heap.size, 2, none⟩ = some (.string ⟨#[]⟩) := (hb1.cell (p := ⟨w.heap.size, 2, none⟩) (by simp)).trans (by simp)
    have f2 : w1.frozen? ⟨w.heap.size, 2, none⟩ = false := (hb1.frozen (p := ⟨w.heap.size, 2, none⟩) (by simp)).trans (by simp)
    have q3 : w1.cell? ⟨w.heap.size, 3, none⟩ = some (.string ⟨#[]⟩) := (hb1.cell (p := ⟨w.heap.size, 3, none⟩) (by simp)).trans (by simp)
    have f3 : w1.frozen? ⟨w.heap.size, 3, none⟩ = false := (hb1.frozen (p := ⟨w.heap.size, 3, none⟩) (by simp)).trans (by simp)
    have hl1 : w.heap.size < w1.heap.size := cell_lt q0
    have hne : ¬ w1.heap.size = w.heap.size := by omega
    clear hb1
    go_wp2_with (first | (go_at_call 39; refine (kind_tell id 4 (unhide HKD) _).mono ?_; rintro e w2 ⟨rfl, hw⟩; obtain rfl := hw.symm; clear hw) | fail)
    (try simp only [Exit.inBlock, Exit.then])
    refine bodyPost_ret (res_p2 (B := w.heap.size) (v0 := .int .i64 id) (v1 := .int .i64 0) (v2 := .string ⟨#[]⟩) (v3 := .string ⟨#[]⟩) rfl rfl ?c0 ?c1 ?c2 ?c3) rfl ?_
    case c0 => rw [World.cell?_alloc_lt _ _ _ (by simpa using hl1)]; simp (maxDischargeDepth := 12) [cell_set, q0]
    case c1 => rw [World.cell?_alloc_lt _ _ _ (by simpa using hl1)]; simp (maxDischargeDepth := 12) [cell_set, q1]
    case c2 => rw [World.cell?_alloc_lt _ _ _ (by simpa using hl1)]; simp (maxDischargeDepth := 12) [cell_set, q2]
    case c3 => rw [World.cell?_alloc_lt _ _ _ (by simpa using hl1)]; simp (maxDischargeDepth := 12) [cell_set, q3]
    exact ⟨_, _, _, _, rfl, by have := unhide HB1; go_grown⟩
  · go_enter Tryd.func38, Tryd.ntmps38
    go_wp2_with fail
    refine (rvget_good _ l _ ((unhide HV).below ((Below.refl _ _).alloc (Nat.le_refl _) _)) id Q (unhide Hhv)).mono ?_
    rintro e w1 ⟨rfl, hb1⟩
    have HB1 : Hid (Below w.heap.size w w1) := ((Below.refl _ _).alloc (Nat.le_refl _) _).trans (hb1.mono (by simp))
    have HD : Hid (Byt w1 (.slice (some ⟨b, off + Q, none⟩) (n - Q) (cap - Q)) (l.drop Q)) := by
      show Byt _ _ _
      have := ((unhide HV).below (unhide HB1)).drop' Q (by omega)
      rw [if_neg hcQ] at this; exact this
    have q0 : w1.cell? ⟨w.heap.size, 0, none⟩ = some (.int .i64 0) := (hb1.cell (p := ⟨w.heap.size, 0, none⟩) (by simp)).trans (by simp)
    have f0 : w1.frozen? ⟨w.heap.size, 0, none⟩ = false := (hb1.frozen (p := ⟨w.heap.size, 0, none⟩) (by simp)).trans (by simp)
    have q1 : w1.cell? ⟨w.heap.size, 1, none⟩ = some (.int .i64 0) := (hb1.cell (p := ⟨w.heap.size, 1, none⟩) (by simp)).trans (by simp)
    have f1 : w1.frozen? ⟨w.heap.size, 1, none⟩ = false := (hb1.frozen (p := ⟨w.heap.size, 1, none⟩) (by simp)).trans (by simp)
    have q2 : w1.cell? ⟨w.heap.size, 2, none⟩ = some (.string ⟨#[]⟩) := (hb1.cell (p := ⟨w.heap.size, 2, none⟩) (by simp)).trans (by simp)
    have f2 : w1.frozen? ⟨w.heap.size, 2, none⟩ = false := (hb1.frozen (p := ⟨w.heap.size, 2, none⟩) (by simp)).trans (by simp)
    have q3 : w1.cell? ⟨w.heap.size, 3, none⟩ = some (.string ⟨#[]⟩) := (hb1.cell (p := ⟨w.heap.size, 3, none⟩) (by simp)).trans (by simp)
    have f3 : w1.frozen? ⟨w.heap.size, 3, none⟩ = false := (hb1.frozen (p := ⟨w.heap.size, 3, none⟩) (by simp)).trans (by simp)
    have hl1 : w.heap.size < w1.heap.size := cell_lt q0
    have hne : ¬ w1.heap.size = w.heap.size := by omega
    clear hb1
    go_wp2_with (first | (go_at_call 39; refine (kind_tell id 4 (unhide HKD) _).mono ?_; rintro e w2 ⟨rfl, hw⟩; obtain rfl := hw.symm; clear hw) | fail)
    (try simp only [Exit.inBlock, Exit.then])
    refine bodyPost_ret (res_p2 (B := w.heap.size) (v0 := .int .i64 id) (v1 := .int .i64 0) (v2 := .string ⟨#[]⟩) (v3 := .string ⟨#[]⟩) rfl rfl ?c0 ?c1 ?c2 ?c3) rfl ?_
    case c0 => rw [World.cell?_alloc_lt _ _ _ (by simpa using hl1)]; simp (maxDischargeDepth := 12) [cell_set, q0]
    case c1 => rw [World.cell?_alloc_lt _ _ _ (by simpa using hl1)]; simp (maxDischargeDepth := 12) [cell_set, q1]
    case c2 => rw [World.cell?_alloc_lt _ _ _ (by simpa using hl1)]; simp (maxDischargeDepth := 12) [cell_set, q2]
    case c3 => rw [World.cell?_alloc_lt _ _ _ (by simpa using hl1)]; simp (maxDischargeDepth := 12) [cell_set, q3]
    exact ⟨_, _, _, _, rfl, by have := unhide HB1; go_grown⟩
set_option maxHeartbeats 4000000 in
theorem rg_pair (v : Value) (l : List Int) (w : World) (h : Byt w v l) (id : Int) (Q : Nat) (hv : V.vget l = (id, (Q : Int), 0)) (hQ : 1 ≤ Q ∧ Q ≤ l.length) (hQ4 : Q ≤ 4) (hk : kd id = 8) (s : ByteArray) (M : Nat) (hg : gt (l.drop Q) = (s, (M : Int), 0)) (hM : 2 ≤ M) (hM2 : Q + M ≤ l.length) (t : ByteArray) (T : Nat) (ht : gt ((l.drop Q).drop M) = (t, (T : Int), 0)) (hT : 2 ≤ T) (hT2 : Q + M + T ≤ l.length) : Calls Tryd.prog 38 #[v] w (RgOk (id, 0, s, t) (Q + (M + T) : Nat) w) := by
  obtain ⟨b, off, cap, rfl, hc1, hc2⟩ := h.form1 (by omega)
  unfold maxLen at hc2
  have HV := hide h
  have Hhv := hide hv
  have HKD := hide hk
  have Hhg := hide hg
  have Hht := hide ht
  clear h hv hk hg ht
  generalize hn : l.length = n at hc1 hQ HV hM2 hT2
  have HN := hide hn
  clear hn
  have HD0 : Hid (Byt w (.slice (some ⟨b, off + Q, none⟩) (n - Q) (cap - Q)) (l.drop Q)) := by
    show Byt _ _ _
    have := (unhide HV).drop' Q (by omega)
    rw [if_neg (by omega)] at this
    skip
    exact this
  have HDD : Hid (Byt w (.slice (some ⟨b, off + Q + M, none⟩) (n - Q - M) (cap - Q - M)) ((l.drop Q).drop M)) := by
    show Byt _ _ _
    have := (unhide HD0).drop' M (by omega)
    rw [if_neg (by omega)] at this
    exact this
  go_enter Tryd.func38, Tryd.ntmps38
  go_wp2_with fail
  refine (rvget_good _ l _ ((unhide HV).below ((Below.refl _ _).alloc (Nat.le_refl _) _)) id Q (unhide Hhv)).mono ?_
  rintro e w1 ⟨rfl, hb1⟩
  have HB1 : Hid (Below w.heap.size w w1) := ((Below.refl _ _).alloc (Nat.le_refl _) _).trans (hb1.mono (by simp))
  have q0 : w1.cell? ⟨w.heap.size, 0, none⟩ = some (.int .i64 0) := (hb1.cell (p := ⟨w.heap.size, 0, none⟩) (by simp)).trans (by simp)
  have f0 : w1.frozen? ⟨w.heap.size, 0, none⟩ = false := (hb1.frozen (p := ⟨w.heap.size, 0, none⟩) (by simp)).trans (by simp)
  have q1 : w1.cell? ⟨w.heap.size, 1, none⟩ = some (.int .i64 0) := (hb1.cell (p := ⟨w.heap.size, 1, none⟩) (by simp)).trans (by simp)
  have f1 : w1.frozen? ⟨w.heap.size, 1, none⟩ = false := (hb1.frozen (p := ⟨w.heap.size, 1, none⟩) (by simp)).trans (by simp)
  have q2 : w1.cell? ⟨w.heap.size, 2, none⟩ = some (.string ⟨#[]⟩) := (hb1.cell (p := ⟨w.heap.size, 2, none⟩) (by simp)).trans (by simp)
  have f2 : w1.frozen? ⟨w.heap.size, 2, none⟩ = false := (hb1.frozen (p := ⟨w.heap.size, 2, none⟩) (by simp)).trans (by simp)
  have q3 : w1.cell? ⟨w.heap.size, 3, none⟩ = some (.string ⟨#[]⟩) := (hb1.cell (p := ⟨w.heap.size, 3, none⟩) (by simp)).trans (by simp)
  have f3 : w1.frozen? ⟨w.heap.size, 3, none⟩ = false := (hb1.frozen (p := ⟨w.heap.size, 3, none⟩) (by simp)).trans (by simp)
  have hl1 : w.heap.size < w1.heap.size := cell_lt q0
  have hne : ¬ w1.heap.size = w.heap.size := by omega
  clear hb1
  go_wp2_with (first | (go_at_call 39; refine (kind_tell id 8 (unhide HKD) _).mono ?_; rintro e w2 ⟨rfl, hw⟩; obtain rfl := hw.symm; clear hw) | fail)
  refine (rtget_good _ _ _ (((unhide HD0).below (unhide HB1)).below ((Below.refl _ _).alloc (Nat.le_refl _) _)) s M (unhide Hhg)).mono ?_
  rintro e w2 ⟨rfl, hb2⟩
  have p0 : w2.cell? ⟨w1.heap.size, 0, none⟩ = some (.int .i64 id) := (hb2.cell (p := ⟨w1.heap.size, 0, none⟩) (by simp)).trans (by simp)
  have h0 : w2.frozen? ⟨w1.heap.size, 0, none⟩ = false := (hb2.frozen (p := ⟨w1.heap.size, 0, none⟩) (by simp)).trans (by simp)
  have p1 : w2.cell? ⟨w1.heap.size, 1, none⟩ = some (.int .i64 0) := (hb2.cell (p := ⟨w1.heap.size, 1, none⟩) (by simp)).trans (by simp)
  have h1 : w2.frozen? ⟨w1.heap.size, 1, none⟩ = false := (hb2.frozen (p := ⟨w1.heap.size, 1, none⟩) (by simp)).trans (by simp)
  have p2 : w2.cell? ⟨w1.heap.size, 2, none⟩ = some (.string ⟨#[]⟩) := (hb2.cell (p := ⟨w1.heap.size, 2, none⟩) (by simp)).trans (by simp)
  have h2 : w2.frozen? ⟨w1.heap.size, 2, none⟩ = false := (hb2.frozen (p := ⟨w1.heap.size, 2, none⟩) (by simp)).trans (by simp)
  have p3 : w2.cell? ⟨w1.heap.size, 3, none⟩ = some (.string ⟨#[]⟩) := (hb2.cell (p := ⟨w1.heap.size, 3, none⟩) (by simp)).trans (by simp)
  have h3 : w2.frozen? ⟨w1.heap.size, 3, none⟩ = false := (hb2.frozen (p := ⟨w1.heap.size, 3, none⟩) (by simp)).trans (by simp)
  have r0 : w2.cell? ⟨w.heap.size, 0, none⟩ = some (.int .i64 0) := (hb2.cell (p := ⟨w.heap.size, 0, none⟩) (by simp; omega)).trans ((World.cell?_alloc_lt _ _ ⟨w.heap.size, 0, none⟩ (by exact hl1)).trans q0)
  have r1 : w2.cell? ⟨w.heap.size, 1, none⟩ = some (.int .i64 0) := (hb2.cell (p := ⟨w.heap.size, 1, none⟩) (by simp; omega)).trans ((World.cell?_alloc_lt _ _ ⟨w.heap.size, 1, none⟩ (by exact hl1)).trans q1)
  have r2 : w2.cell? ⟨w.heap.size, 2, none⟩ = some (.string ⟨#[]⟩) := (hb2.cell (p := ⟨w.heap.size, 2, none⟩) (by simp; omega)).trans ((World.cell?_alloc_lt _ _ ⟨w.heap.size, 2, none⟩ (by exact hl1)).trans q2)
  have r3 : w2.cell? ⟨w.heap.size, 3, none⟩ = some (.string ⟨#[]⟩) := (hb2.cell (p := ⟨w.heap.size, 3, none⟩) (by simp; omega)).trans ((World.cell?_alloc_lt _ _ ⟨w.heap.size, 3, none⟩ (by exact hl1)).trans q3)
  have g0 : w2.frozen? ⟨w.heap.size, 0, none⟩ = false := (hb2.frozen (p := ⟨w.heap.size, 0, none⟩) (by simp; omega)).trans ((((Below.refl w1.heap.size w1).alloc (Nat.le_refl _) _).frozen (p := ⟨w.heap.size, 0, none⟩) hl1).trans f0)
  have g1 : w2.frozen? ⟨w.heap.size, 1, none⟩ = false := (hb2.frozen (p := ⟨w.heap.size, 1, none⟩) (by simp; omega)).trans ((((Below.refl w1.heap.size w1).alloc (Nat.le_refl _) _).frozen (p := ⟨w.heap.size, 1, none⟩) hl1).trans f1)
  have g2 : w2.frozen? ⟨w.heap.size, 2, none⟩ = false := (hb2.frozen (p := ⟨w.heap.size, 2, none⟩) (by simp; omega)).trans ((((Below.refl w1.heap.size w1).alloc (Nat.le_refl _) _).frozen (p := ⟨w.heap.size, 2, none⟩) hl1).trans f2)
  have g3 : w2.frozen? ⟨w.heap.size, 3, none⟩ = false := (hb2.frozen (p := ⟨w.heap.size, 3, none⟩) (by simp; omega)).trans ((((Below.refl w1.heap.size w1).alloc (Nat.le_refl _) _).frozen (p := ⟨w.heap.size, 3, none⟩) hl1).trans f3)
  have HB2 : Hid (Below w.heap.size w w2) := ((unhide HB1).alloc (unhide HB1).size _).trans (hb2.mono (by simp; omega))
  clear hb2
  have HB2s : Hid (Below w.heap.size w (w2.setCell ⟨w1.heap.size, 2, none⟩ (.string s))) := (unhide HB2).setCell (by show w.heap.size ≤ w1.heap.size; omega) _
  have hl2 : w1.heap.size < w2.heap.size := cell_lt p0
  go_wp2_with fail
  refine (rtget_good _ _ _ ((unhide HDD).below (unhide HB2s)) t T (unhide Hht)).mono ?_
  rintro e w3 ⟨rfl, hb3⟩
  have P0 : w3.cell? ⟨w1.heap.size, 0, none⟩ = some (.int .i64 id) := (hb3.cell (p := ⟨w1.heap.size, 0, none⟩) (by simp; omega)).trans (by simp (maxDischargeDepth := 12) [cell_set, p0])
  have F0 : w3.frozen? ⟨w1.heap.size, 0, none⟩ = false := (hb3.frozen (p := ⟨w1.heap.size, 0, none⟩) (by simp; omega)).trans (by rw [World.frozen?_setCell]; exact h0)
  have R0 : w3.cell? ⟨w.heap.size, 0, none⟩ = some (.int .i64 0) := (hb3.cell (p := ⟨w.heap.size, 0, none⟩) (by simp; omega)).trans ((World.cell?_setCell_far _ _ _ _ hne).trans r0)
  have G0 : w3.frozen? ⟨w.heap.size, 0, none⟩ = false := (hb3.frozen (p := ⟨w.heap.size, 0, none⟩) (by simp; omega)).trans (by rw [World.frozen?_setCell]; exact g0)
  have P1 : w3.cell? ⟨w1.heap.size, 1, none⟩ = some (.int .i64 0) := (hb3.cell (p := ⟨w1.heap.size, 1, none⟩) (by simp; omega)).trans (by simp (maxDischargeDepth := 12) [cell_set, p1])
  have F1 : w3.frozen? ⟨w1.heap.size, 1, none⟩ = false := (hb3.frozen (p := ⟨w1.heap.size, 1, none⟩) (by simp; omega)).trans (by rw [World.frozen?_setCell]; exact h1)
  have R1 : w3.cell? ⟨w.heap.size, 1, none⟩ = some (.int .i64 0) := (hb3.cell (p := ⟨w.heap.size, 1, none⟩) (by simp; omega)).trans ((World.cell?_setCell_far _ _ _ _ hne).trans r1)
  have G1 : w3.frozen? ⟨w.heap.size, 1, none⟩ = false := (hb3.frozen (p := ⟨w.heap.size, 1, none⟩) (by simp; omega)).trans (by rw [World.frozen?_setCell]; exact g1)
  have P2 : w3.cell? ⟨w1.heap.size, 2, none⟩ = some (.string s) := (hb3.cell (p := ⟨w1.heap.size, 2, none⟩) (by simp; omega)).trans (by simp (maxDischargeDepth := 12) [cell_set, p2])
  have F2 : w3.frozen? ⟨w1.heap.size, 2, none⟩ = false := (hb3.frozen (p := ⟨w1.heap.size, 2, none⟩) (by simp; omega)).trans (by rw [World.frozen?_setCell]; exact h2)
  have R2 : w3.cell? ⟨w.heap.size, 2, none⟩ = some (.string ⟨#[]⟩) := (hb3.cell (p := ⟨w.heap.size, 2, none⟩) (by simp; omega)).trans ((World.cell?_setCell_far _ _ _ _ hne).trans r2)
  have G2 : w3.frozen? ⟨w.heap.size, 2, none⟩ = false := (hb3.frozen (p := ⟨w.heap.size, 2, none⟩) (by simp; omega)).trans (by rw [World.frozen?_setCell]; exact g2)
  have P3 : w3.cell? ⟨w1.heap.size, 3, none⟩ = some (.string ⟨#[]⟩) := (hb3.cell (p := ⟨w1.heap.size, 3, none⟩) (by simp; omega)).trans (by simp (maxDischargeDepth := 12) [cell_set, p3])
  have F3 : w3.frozen? ⟨w1.heap.size, 3, none⟩ = false := (hb3.frozen (p := ⟨w1.heap.size, 3, none⟩) (by simp; omega)).trans (by rw [World.frozen?_setCell]; exact h3)
  have R3 : w3.cell? ⟨w.heap.size, 3, none⟩ = some (.string ⟨#[]⟩) := (hb3.cell (p := ⟨w.heap.size, 3, none⟩) (by simp; omega)).trans ((World.cell?_setCell_far _ _ _ _ hne).trans r3)
  have G3 : w3.frozen? ⟨w.heap.size, 3, none⟩ = false := (hb3.frozen (p := ⟨w.heap.size, 3, none⟩) (by simp; omega)).trans (by rw [World.frozen?_setCell]; exact g3)
  have HB3 : Hid (Below w.heap.size w w3) := (unhide HB2s).trans (hb3.mono (by simp; omega))
  clear hb3 HB2s HB2 HB1 HDD HD0 p0 h0 r0 g0 q0 f0 p1 h1 r1 g1 q1 f1 p2 h2 r2 g2 q2 f2 p3 h3 r3 g3 q3 f3
  go_wp2
  (try simp only [Exit.inBlock, Exit.then])
  refine bodyPost_ret (res_p2 (B := w.heap.size) (v0 := .int .i64 id) (v1 := .int .i64 0) (v2 := .string s) (v3 := .string t) rfl rfl ?c0 ?c1 ?c2 ?c3) rfl ?_
  case c0 => simp (maxDischargeDepth := 12) [cell_set, R0]
  case c1 => simp (maxDischargeDepth := 12) [cell_set, R1]
  case c2 => simp (maxDischargeDepth := 12) [cell_set, R2]
  case c3 => simp (maxDischargeDepth := 12) [cell_set, R3]
  exact ⟨by go_num, by have := unhide HB3; go_grown⟩
set_option maxHeartbeats 4000000 in
theorem rg_pair_bad2 (v : Value) (l : List Int) (w : World) (h : Byt w v l) (id : Int) (Q : Nat) (hv : V.vget l = (id, (Q : Int), 0)) (hQ : 1 ≤ Q ∧ Q ≤ l.length) (hQ4 : Q ≤ 4) (hk : kd id = 8) (s : ByteArray) (M : Nat) (hg : gt (l.drop Q) = (s, (M : Int), 0)) (hM : 2 ≤ M) (hM2 : Q + M ≤ l.length) (m : Int) (ht : (gt ((l.drop Q).drop M)).2.2 = m) (hm : m ≠ 0) : Calls Tryd.prog 38 #[v] w (RgBad w) := by
  obtain ⟨b, off, cap, rfl, hc1, hc2⟩ := h.form1 (by omega)
  unfold maxLen at hc2
  have HV := hide h
  have Hhv := hide hv
  have HKD := hide hk
  have Hhg := hide hg
  have Hht := hide ht
  clear h hv hk hg ht
  generalize hn : l.length = n at hc1 hQ HV hM2
  have HN := hide hn
  clear hn
  by_cases hcM : cap = Q + M
  · have e1 : n = Q + M := by omega
    subst hcM
    subst e1
    have HD0 : Hid (Byt w (.slice (some ⟨b, off + Q, none⟩) M M) (l.drop Q)) := by
      show Byt _ _ _
      have := (unhide HV).drop' Q (by omega)
      rw [if_neg (by omega)] at this
      rw [Nat.add_sub_cancel_left] at this
      exact this
    have HDD : Hid (Byt w (.slice (some ⟨b, off + Q, none⟩) 0 0) ((l.drop Q).drop M)) := by
      show Byt _ _ _
      have := (unhide HD0).drop' M (by omega)
      rw [if_pos rfl, Nat.sub_self] at this
      exact this
    go_enter Tryd.func38, Tryd.ntmps38
    go_wp2_with fail
    refine (rvget_good _ l _ ((unhide HV).below ((Below.refl _ _).alloc (Nat.le_refl _) _)) id Q (unhide Hhv)).mono ?_
    rintro e w1 ⟨rfl, hb1⟩
    have HB1 : Hid (Below w.heap.size w w1) := ((Below.refl _ _).alloc (Nat.le_refl _) _).trans (hb1.mono (by simp))
    have q0 : w1.cell? ⟨w.heap.size, 0, none⟩ = some (.int .i64 0) := (hb1.cell (p := ⟨w.heap.size, 0, none⟩) (by simp)).trans (by simp)
    have f0 : w1.frozen? ⟨w.heap.size, 0, none⟩ = false := (hb1.frozen (p := ⟨w.heap.size, 0, none⟩) (by simp)).trans (by simp)
    have q1 : w1.cell? ⟨w.heap.size, 1, none⟩ = some (.int .i64 0) := (hb1.cell (p := ⟨w.heap.size, 1, none⟩) (by simp)).trans (by simp)
    have f1 : w1.frozen? ⟨w.heap.size, 1, none⟩ = false := (hb1.frozen (p := ⟨w.heap.size, 1, none⟩) (by simp)).trans (by simp)
    have q2 : w1.cell? ⟨w.heap.size, 2, none⟩ = some (.string ⟨#[]⟩) := (hb1.cell (p := ⟨w.heap.size, 2, none⟩) (by simp)).trans (by simp)
    have f2 : w1.frozen? ⟨w.heap.size, 2, none⟩ = false := (hb1.frozen (p := ⟨w.heap.size, 2, none⟩) (by simp)).trans (by simp)
    have q3 : w1.cell? ⟨w.heap.size, 3, none⟩ = some (.string ⟨#[]⟩) := (hb1.cell (p := ⟨w.heap.size, 3, none⟩) (by simp)).trans (by simp)
    have f3 : w1.frozen? ⟨w.heap.size, 3, none⟩ = false := (hb1.frozen (p := ⟨w.heap.size, 3, none⟩) (by simp)).trans (by simp)
    have hl1 : w.heap.size < w1.heap.size := cell_lt q0
    have hne : ¬ w1.heap.size = w.heap.size := by omega
    clear hb1
    go_wp2_with (first | (go_at_call 39; refine (kind_tell id 8 (unhide HKD) _).mono ?_; rintro e w2 ⟨rfl, hw⟩; obtain rfl := hw.symm; clear hw) | fail)
    refine (rtget_good _ _ _ (((unhide HD0).below (unhide HB1)).below ((Below.refl _ _).alloc (Nat.le_refl _) _)) s M (unhide Hhg)).mono ?_
    rintro e w2 ⟨rfl, hb2⟩
    have p0 : w2.cell? ⟨w1.heap.size, 0, none⟩ = some (.int .i64 id) := (hb2.cell (p := ⟨w1.heap.size, 0, none⟩) (by simp)).trans (by simp)
    have h0 : w2.frozen? ⟨w1.heap.size, 0, none⟩ = false := (hb2.frozen (p := ⟨w1.heap.size, 0, none⟩) (by simp)).trans (by simp)
    have p1 : w2.cell? ⟨w1.heap.size, 1, none⟩ = some (.int .i64 0) := (hb2.cell (p := ⟨w1.heap.size, 1, none⟩) (by simp)).trans (by simp)
    have h1 : w2.frozen? ⟨w1.heap.size, 1, none⟩ = false := (hb2.frozen (p := ⟨w1.heap.size, 1, none⟩) (by simp)).trans (by simp)
    have p2 : w2.cell? ⟨w1.heap.size, 2, none⟩ = some (.string ⟨#[]⟩) := (hb2.cell (p := ⟨w1.heap.size, 2, none⟩) (by simp)).trans (by simp)
    have h2 : w2.frozen? ⟨w1.heap.size, 2, none⟩ = false := (hb2.frozen (p := ⟨w1.heap.size, 2, none⟩) (by simp)).trans (by simp)
    have p3 : w2.cell? ⟨w1.heap.size, 3, none⟩ = some (.string ⟨#[]⟩) := (hb2.cell (p := ⟨w1.heap.size, 3, none⟩) (by simp)).trans (by simp)
    have h3 : w2.frozen? ⟨w1.heap.size, 3, none⟩ = false := (hb2.frozen (p := ⟨w1.heap.size, 3, none⟩) (by simp)).trans (by simp)
    have r0 : w2.cell? ⟨w.heap.size, 0, none⟩ = some (.int .i64 0) := (hb2.cell (p := ⟨w.heap.size, 0, none⟩) (by simp; omega)).trans ((World.cell?_alloc_lt _ _ ⟨w.heap.size, 0, none⟩ (by exact hl1)).trans q0)
    have r1 : w2.cell? ⟨w.heap.size, 1, none⟩ = some (.int .i64 0) := (hb2.cell (p := ⟨w.heap.size, 1, none⟩) (by simp; omega)).trans ((World.cell?_alloc_lt _ _ ⟨w.heap.size, 1, none⟩ (by exact hl1)).trans q1)
    have r2 : w2.cell? ⟨w.heap.size, 2, none⟩ = some (.string ⟨#[]⟩) := (hb2.cell (p := ⟨w.heap.size, 2, none⟩) (by simp; omega)).trans ((World.cell?_alloc_lt _ _ ⟨w.heap.size, 2, none⟩ (by exact hl1)).trans q2)
    have r3 : w2.cell? ⟨w.heap.size, 3, none⟩ = some (.string ⟨#[]⟩) := (hb2.cell (p := ⟨w.heap.size, 3, none⟩) (by simp; omega)).trans ((World.cell?_alloc_lt _ _ ⟨w.heap.size, 3, none⟩ (by exact hl1)).trans q3)
    have g0 : w2.frozen? ⟨w.heap.size, 0, none⟩ = false := (hb2.frozen (p := ⟨w.heap.size, 0, none⟩) (by simp; omega)).trans ((((Below.refl w1.heap.size w1).alloc (Nat.le_refl _) _).frozen (p := ⟨w.heap.size, 0, none⟩) hl1).trans f0)
    have g1 : w2.frozen? ⟨w.heap.size, 1, none⟩ = false := (hb2.frozen (p := ⟨w.heap.size, 1, none⟩) (by simp; omega)).trans ((((Below.refl w1.heap.size w1).alloc (Nat.le_refl _) _).frozen (p := ⟨w.heap.size, 1, none⟩) hl1).trans f1)
    have g2 : w2.frozen? ⟨w.heap.size, 2, none⟩ = false := (hb2.frozen (p := ⟨w.heap.size, 2, none⟩) (by simp; omega)).trans ((((Below.refl w1.heap.size w1).alloc (Nat.le_refl _) _).frozen (p := ⟨w.heap.size, 2, none⟩) hl1).trans f2)
    have g3 : w2.frozen? ⟨w.heap.size, 3, none⟩ = false := (hb2.frozen (p := ⟨w.heap.size, 3, none⟩) (by simp; omega)).trans ((((Below.refl w1.heap.size w1).alloc (Nat.le_refl _) _).frozen (p := ⟨w.heap.size, 3, none⟩) hl1).trans f3)
    have HB2 : Hid (Below w.heap.size w w2) := ((unhide HB1).alloc (unhide HB1).size _).trans (hb2.mono (by simp; omega))
    clear hb2
    have HB2s : Hid (Below w.heap.size w (w2.setCell ⟨w1.heap.size, 2, none⟩ (.string s))) := (unhide HB2).setCell (by show w.heap.size ≤ w1.heap.size; omega) _
    have hl2 : w1.heap.size < w2.heap.size := cell_lt p0
    go_wp2_with fail
    refine (rtget_fail _ _ _ ((unhide HDD).below (unhide HB2s)) m (unhide Hht)).mono ?_
    rintro e w3 ⟨a, b2, rfl, hb3⟩
    have P0 : w3.cell? ⟨w1.heap.size, 0, none⟩ = some (.int .i64 id) := (hb3.cell (p := ⟨w1.heap.size, 0, none⟩) (by simp; omega)).trans (by simp (maxDischargeDepth := 12) [cell_set, p0])
    have F0 : w3.frozen? ⟨w1.heap.size, 0, none⟩ = false := (hb3.frozen (p := ⟨w1.heap.size, 0, none⟩) (by simp; omega)).trans (by rw [World.frozen?_setCell]; exact h0)
    have R0 : w3.cell? ⟨w.heap.size, 0, none⟩ = some (.int .i64 0) := (hb3.cell (p := ⟨w.heap.size, 0, none⟩) (by simp; omega)).trans ((World.cell?_setCell_far _ _ _ _ hne).trans r0)
    have G0 : w3.frozen? ⟨w.heap.size, 0, none⟩ = false := (hb3.frozen (p := ⟨w.heap.size, 0, none⟩) (by simp; omega)).trans (by rw [World.frozen?_setCell]; exact g0)
    have P1 : w3.cell? ⟨w1.heap.size, 1, none⟩ = some (.int .i64 0) := (hb3.cell (p := ⟨w1.heap.size, 1, none⟩) (by simp; omega)).trans (by simp (maxDischargeDepth := 12) [cell_set, p1])
    have F1 : w3.frozen? ⟨w1.heap.size, 1, none⟩ = false := (hb3.frozen (p := ⟨w1.heap.size, 1, none⟩) (by simp; omega)).trans (by rw [World.frozen?_setCell]; exact h1)
    have R1 : w3.cell? ⟨w.heap.size, 1, none⟩ = some (.int .i64 0) := (hb3.cell (p := ⟨w.heap.size, 1, none⟩) (by simp; omega)).trans ((World.cell?_setCell_far _ _ _ _ hne).trans r1)
    have G1 : w3.frozen? ⟨w.heap.size, 1, none⟩ = false := (hb3.frozen (p := ⟨w.heap.size, 1, none⟩) (by simp; omega)).trans (by rw [World.frozen?_setCell]; exact g1)
    have P2 : w3.cell? ⟨w1.heap.size, 2, none⟩ = some (.string s) := (hb3.cell (p := ⟨w1.heap.size, 2, none⟩) (by simp; omega)).trans (by simp (maxDischargeDepth := 12) [cell_set, p2])
    have F2 : w3.frozen? ⟨w1.heap.size, 2, none⟩ = false := (hb3.frozen (p := ⟨w1.heap.size, 2, none⟩) (by simp; omega)).trans (by rw [World.frozen?_setCell]; exact h2)
    have R2 : w3.cell? ⟨w.heap.size, 2, none⟩ = some (.string ⟨#[]⟩) := (hb3.cell (p := ⟨w.heap.size, 2, none⟩) (by simp; omega)).trans ((World.cell?_setCell_far _ _ _ _ hne).trans r2)
    have G2 : w3.frozen? ⟨w.heap.size, 2, none⟩ = false := (hb3.frozen (p := ⟨w.heap.size, 2, none⟩) (by simp; omega)).trans (by rw [World.frozen?_setCell]; exact g2)
    have P3 : w3.cell? ⟨w1.heap.size, 3, none⟩ = some (.string ⟨#[]⟩) := (hb3.cell (p := ⟨w1.heap.size, 3, none⟩) (by simp; omega)).trans (by simp (maxDischargeDepth := 12) [cell_set, p3])
    have F3 : w3.frozen? ⟨w1.heap.size, 3, none⟩ = false := (hb3.frozen (p := ⟨w1.heap.size, 3, none⟩) (by simp; omega)).trans (by rw [World.frozen?_setCell]; exact h3)
    have R3 : w3.cell? ⟨w.heap.size, 3, none⟩ = some (.string ⟨#[]⟩) := (hb3.cell (p := ⟨w.heap.size, 3, none⟩) (by simp; omega)).trans ((World.cell?_setCell_far _ _ _ _ hne).trans r3)
    have G3 : w3.frozen? ⟨w.heap.size, 3, none⟩ = false := (hb3.frozen (p := ⟨w.heap.size, 3, none⟩) (by simp; omega)).trans (by rw [World.frozen?_setCell]; exact g3)
    have HB3 : Hid (Below w.heap.size w w3) := (unhide HB2s).trans (hb3.mono (by simp; omega))
    clear hb3 HB2s HB2 HB1 HDD HD0 p0 h0 r0 g0 q0 f0 p1 h1 r1 g1 q1 f1 p2 h2 r2 g2 q2 f2 p3 h3 r3 g3 q3 f3
    go_wp2
    (try simp only [Exit.inBlock, Exit.then])
    refine bodyPost_ret (res_p2 (B := w.heap.size) (v0 := .int .i64 id) (v1 := .int .i64 0) (v2 := .string s) (v3 := .string a) rfl rfl ?c0 ?c1 ?c2 ?c3) rfl ?_
    case c0 => simp (maxDischargeDepth := 12) [cell_set, R0]
    case c1 => simp (maxDischargeDepth := 12) [cell_set, R1]
    case c2 => simp (maxDischargeDepth := 12) [cell_set, R2]
    case c3 => simp (maxDischargeDepth := 12) [cell_set, R3]
    exact ⟨_, _, _, _, rfl, by have := unhide HB3; go_grown⟩
  · have HD0 : Hid (Byt w (.slice (some ⟨b, off + Q, none⟩) (n - Q) (cap - Q)) (l.drop Q)) := by
      show Byt _ _ _
      have := (unhide HV).drop' Q (by omega)
      rw [if_neg (by omega)] at this
      skip
      exact this
    have HDD : Hid (Byt w (.slice (some ⟨b, off + Q + M, none⟩) (n - Q - M) (cap - Q - M)) ((l.drop Q).drop M)) := by
      show Byt _ _ _
      have := (unhide HD0).drop' M (by omega)
      rw [if_neg (by omega)] at this
      exact this
    go_enter Tryd.func38, Tryd.ntmps38
    go_wp2_with fail
    refine (rvget_good _ l _ ((unhide HV).below ((Below.refl _ _).alloc (Nat.le_refl _) _)) id Q (unhide Hhv)).mono ?_
    rintro e w1 ⟨rfl, hb1⟩
    have HB1 : Hid (Below w.heap.size w w1) := ((Below.refl _ _).alloc (Nat.le_refl _) _).trans (hb1.mono (by simp))
    have q0 : w1.cell? ⟨w.heap.size, 0, none⟩ = some (.int .i64 0) := (hb1.cell (p := ⟨w.heap.size, 0, none⟩) (by simp)).trans (by simp)
    have f0 : w1.frozen? ⟨w.heap.size, 0, none⟩ = false := (hb1.frozen (p := ⟨w.heap.size, 0, none⟩) (by simp)).trans (by simp)
    have q1 : w1.cell? ⟨w.heap.size, 1, none⟩ = some (.int .i64 0) := (hb1.cell (p := ⟨w.heap.size, 1, none⟩) (by simp)).trans (by simp)
    have f1 : w1.frozen? ⟨w.heap.size, 1, none⟩ = false := (hb1.frozen (p := ⟨w.heap.size, 1, none⟩) (by simp)).trans (by simp)
    have q2 : w1.cell? ⟨w.heap.size, 2, none⟩ = some (.string ⟨#[]⟩) := (hb1.cell (p := ⟨w.heap.size, 2, none⟩) (by simp)).trans (by simp)
    have f2 : w1.frozen? ⟨w.heap.size, 2, none⟩ = false := (hb1.frozen (p := ⟨w.heap.size, 2, none⟩) (by simp)).trans (by simp)
    have q3 : w1.cell? ⟨w.heap.size, 3, none⟩ = some (.string ⟨#[]⟩) := (hb1.cell (p := ⟨w.heap.size, 3, none⟩) (by simp)).trans (by simp)
    have f3 : w1.frozen? ⟨w.heap.size, 3, none⟩ = false := (hb1.frozen (p := ⟨w.heap.size, 3, none⟩) (by simp)).trans (by simp)
    have hl1 : w.heap.size < w1.heap.size := cell_lt q0
    have hne : ¬ w1.heap.size = w.heap.size := by omega
    clear hb1
    go_wp2_with (first | (go_at_call 39; refine (kind_tell id 8 (unhide HKD) _).mono ?_; rintro e w2 ⟨rfl, hw⟩; obtain rfl := hw.symm; clear hw) | fail)
    refine (rtget_good _ _ _ (((unhide HD0).below (unhide HB1)).below ((Below.refl _ _).alloc (Nat.le_refl _) _)) s M (unhide Hhg)).mono ?_
    rintro e w2 ⟨rfl, hb2⟩
    have p0 : w2.cell? ⟨w1.heap.size, 0, none⟩ = some (.int .i64 id) := (hb2.cell (p := ⟨w1.heap.size, 0, none⟩) (by simp)).trans (by simp)
    have h0 : w2.frozen? ⟨w1.heap.size, 0, none⟩ = false := (hb2.frozen (p := ⟨w1.heap.size, 0, none⟩) (by simp)).trans (by simp)
    have p1 : w2.cell? ⟨w1.heap.size, 1, none⟩ = some (.int .i64 0) := (hb2.cell (p := ⟨w1.heap.size, 1, none⟩) (by simp)).trans (by simp)
    have h1 : w2.frozen? ⟨w1.heap.size, 1, none⟩ = false := (hb2.frozen (p := ⟨w1.heap.size, 1, none⟩) (by simp)).trans (by simp)
    have p2 : w2.cell? ⟨w1.heap.size, 2, none⟩ = some (.string ⟨#[]⟩) := (hb2.cell (p := ⟨w1.heap.size, 2, none⟩) (by simp)).trans (by simp)
    have h2 : w2.frozen? ⟨w1.heap.size, 2, none⟩ = false := (hb2.frozen (p := ⟨w1.heap.size, 2, none⟩) (by simp)).trans (by simp)
    have p3 : w2.cell? ⟨w1.heap.size, 3, none⟩ = some (.string ⟨#[]⟩) := (hb2.cell (p := ⟨w1.heap.size, 3, none⟩) (by simp)).trans (by simp)
    have h3 : w2.frozen? ⟨w1.heap.size, 3, none⟩ = false := (hb2.frozen (p := ⟨w1.heap.size, 3, none⟩) (by simp)).trans (by simp)
    have r0 : w2.cell? ⟨w.heap.size, 0, none⟩ = some (.int .i64 0) := (hb2.cell (p := ⟨w.heap.size, 0, none⟩) (by simp; omega)).trans ((World.cell?_alloc_lt _ _ ⟨w.heap.size, 0, none⟩ (by exact hl1)).trans q0)
    have r1 : w2.cell? ⟨w.heap.size, 1, none⟩ = some (.int .i64 0) := (hb2.cell (p := ⟨w.heap.size, 1, none⟩) (by simp; omega)).trans ((World.cell?_alloc_lt _ _ ⟨w.heap.size, 1, none⟩ (by exact hl1)).trans q1)
    have r2 : w2.cell? ⟨w.heap.size, 2, none⟩ = some (.string ⟨#[]⟩) := (hb2.cell (p := ⟨w.heap.size, 2, none⟩) (by simp; omega)).trans ((World.cell?_alloc_lt _ _ ⟨w.heap.size, 2, none⟩ (by exact hl1)).trans q2)
    have r3 : w2.cell? ⟨w.heap.size, 3, none⟩ = some (.string ⟨#[]⟩) := (hb2.cell (p := ⟨w.heap.size, 3, none⟩) (by simp; omega)).trans ((World.cell?_alloc_lt _ _ ⟨w.heap.size, 3, none⟩ (by exact hl1)).trans q3)
    have g0 : w2.frozen? ⟨w.heap.size, 0, none⟩ = false := (hb2.frozen (p := ⟨w.heap.size, 0, none⟩) (by simp; omega)).trans ((((Below.refl w1.heap.size w1).alloc (Nat.le_refl _) _).frozen (p := ⟨w.heap.size, 0, none⟩) hl1).trans f0)
    have g1 : w2.frozen? ⟨w.heap.size, 1, none⟩ = false := (hb2.frozen (p := ⟨w.heap.size, 1, none⟩) (by simp; omega)).trans ((((Below.refl w1.heap.size w1).alloc (Nat.le_refl _) _).frozen (p := ⟨w.heap.size, 1, none⟩) hl1).trans f1)
    have g2 : w2.frozen? ⟨w.heap.size, 2, none⟩ = false := (hb2.frozen (p := ⟨w.heap.size, 2, none⟩) (by simp; omega)).trans ((((Below.refl w1.heap.size w1).alloc (Nat.le_refl _) _).frozen (p := ⟨w.heap.size, 2, none⟩) hl1).trans f2)
    have g3 : w2.frozen? ⟨w.heap.size, 3, none⟩ = false := (hb2.frozen (p := ⟨w.heap.size, 3, none⟩) (by simp; omega)).trans ((((Below.refl w1.heap.size w1).alloc (Nat.le_refl _) _).frozen (p := ⟨w.heap.size, 3, none⟩) hl1).trans f3)
    have HB2 : Hid (Below w.heap.size w w2) := ((unhide HB1).alloc (unhide HB1).size _).trans (hb2.mono (by simp; omega))
    clear hb2
    have HB2s : Hid (Below w.heap.size w (w2.setCell ⟨w1.heap.size, 2, none⟩ (.string s))) := (unhide HB2).setCell (by show w.heap.size ≤ w1.heap.size; omega) _
    have hl2 : w1.heap.size < w2.heap.size := cell_lt p0
    go_wp2_with fail
    refine (rtget_fail _ _ _ ((unhide HDD).below (unhide HB2s)) m (unhide Hht)).mono ?_
    rintro e w3 ⟨a, b2, rfl, hb3⟩
    have P0 : w3.cell? ⟨w1.heap.size, 0, none⟩ = some (.int .i64 id) := (hb3.cell (p := ⟨w1.heap.size, 0, none⟩) (by simp; omega)).trans (by simp (maxDischargeDepth := 12) [cell_set, p0])
    have F0 : w3.frozen? ⟨w1.heap.size, 0, none⟩ = false := (hb3.frozen (p := ⟨w1.heap.size, 0, none⟩) (by simp; omega)).trans (by rw [World.frozen?_setCell]; exact h0)
    have R0 : w3.cell? ⟨w.heap.size, 0, none⟩ = some (.int .i64 0) := (hb3.cell (p := ⟨w.heap.size, 0, none⟩) (by simp; omega)).trans ((World.cell?_setCell_far _ _ _ _ hne).trans r0)
    have G0 : w3.frozen? ⟨w.heap.size, 0, none⟩ = false := (hb3.frozen (p := ⟨w.heap.size, 0, none⟩) (by simp; omega)).trans (by rw [World.frozen?_setCell]; exact g0)
    have P1 : w3.cell? ⟨w1.heap.size, 1, none⟩ = some (.int .i64 0) := (hb3.cell (p := ⟨w1.heap.size, 1, none⟩) (by simp; omega)).trans (by simp (maxDischargeDepth := 12) [cell_set, p1])
    have F1 : w3.frozen? ⟨w1.heap.size, 1, none⟩ = false := (hb3.frozen (p := ⟨w1.heap.size, 1, none⟩) (by simp; omega)).trans (by rw [World.frozen?_setCell]; exact h1)
    have R1 : w3.cell? ⟨w.heap.size, 1, none⟩ = some (.int .i64 0) := (hb3.cell (p := ⟨w.heap.size, 1, none⟩) (by simp; omega)).trans ((World.cell?_setCell_far _ _ _ _ hne).trans r1)
    have G1 : w3.frozen? ⟨w.heap.size, 1, none⟩ = false := (hb3.frozen (p := ⟨w.heap.size, 1, none⟩) (by simp; omega)).trans (by rw [World.frozen?_setCell]; exact g1)
    have P2 : w3.cell? ⟨w1.heap.size, 2, none⟩ = some (.string s) := (hb3.cell (p := ⟨w1.heap.size, 2, none⟩) (by simp; omega)).trans (by simp (maxDischargeDepth := 12) [cell_set, p2])
    have F2 : w3.frozen? ⟨w1.heap.size, 2, none⟩ = false := (hb3.frozen (p := ⟨w1.heap.size, 2, none⟩) (by simp; omega)).trans (by rw [World.frozen?_setCell]; exact h2)
    have R2 : w3.cell? ⟨w.heap.size, 2, none⟩ = some (.string ⟨#[]⟩) := (hb3.cell (p := ⟨w.heap.size, 2, none⟩) (by simp; omega)).trans ((World.cell?_setCell_far _ _ _ _ hne).trans r2)
    have G2 : w3.frozen? ⟨w.heap.size, 2, none⟩ = false := (hb3.frozen (p := ⟨w.heap.size, 2, none⟩) (by simp; omega)).trans (by rw [World.frozen?_setCell]; exact g2)
    have P3 : w3.cell? ⟨w1.heap.size, 3, none⟩ = some (.string ⟨#[]⟩) := (hb3.cell (p := ⟨w1.heap.size, 3, none⟩) (by simp; omega)).trans (by simp (maxDischargeDepth := 12) [cell_set, p3])
    have F3 : w3.frozen? ⟨w1.heap.size, 3, none⟩ = false := (hb3.frozen (p := ⟨w1.heap.size, 3, none⟩) (by simp; omega)).trans (by rw [World.frozen?_setCell]; exact h3)
    have R3 : w3.cell? ⟨w.heap.size, 3, none⟩ = some (.string ⟨#[]⟩) := (hb3.cell (p := ⟨w.heap.size, 3, none⟩) (by simp; omega)).trans ((World.cell?_setCell_far _ _ _ _ hne).trans r3)
    have G3 : w3.frozen? ⟨w.heap.size, 3, none⟩ = false := (hb3.frozen (p := ⟨w.heap.size, 3, none⟩) (by simp; omega)).trans (by rw [World.frozen?_setCell]; exact g3)
    have HB3 : Hid (Below w.heap.size w w3) := (unhide HB2s).trans (hb3.mono (by simp; omega))
    clear hb3 HB2s HB2 HB1 HDD HD0 p0 h0 r0 g0 q0 f0 p1 h1 r1 g1 q1 f1 p2 h2 r2 g2 q2 f2 p3 h3 r3 g3 q3 f3
    go_wp2
    (try simp only [Exit.inBlock, Exit.then])
    refine bodyPost_ret (res_p2 (B := w.heap.size) (v0 := .int .i64 id) (v1 := .int .i64 0) (v2 := .string s) (v3 := .string a) rfl rfl ?c0 ?c1 ?c2 ?c3) rfl ?_
    case c0 => simp (maxDischargeDepth := 12) [cell_set, R0]
    case c1 => simp (maxDischargeDepth := 12) [cell_set, R1]
    case c2 => simp (maxDischargeDepth := 12) [cell_set, R2]
    case c3 => simp (maxDischargeDepth := 12) [cell_set, R3]
    exact ⟨_, _, _, _, rfl, by have := unhide HB3; go_grown⟩
set_option maxHeartbeats 2000000 in
theorem rg_pair_bad1 (v : Value) (l : List Int) (w : World) (h : Byt w v l) (id : Int) (Q : Nat) (hv : V.vget l = (id, (Q : Int), 0)) (hQ : 1 ≤ Q ∧ Q ≤ l.length) (hQ4 : Q ≤ 4) (hk : kd id = 8) (m : Int) (hg : (gt (l.drop Q)).2.2 = m) (hm : m ≠ 0) : Calls Tryd.prog 38 #[v] w (RgBad w) := by
  obtain ⟨b, off, cap, rfl, hc1, hc2⟩ := h.form1 (by omega)
  unfold maxLen at hc2
  have HV := hide h
  have Hhv := hide hv
  have HKD := hide hk
  have Hhg := hide hg
  clear h hv hk hg
  generalize hn : l.length = n at hc1 hQ HV 
  have HN := hide hn
  clear hn
  by_cases hcQ : cap = Q
  · have e1 : Q = cap := hcQ.symm
    clear hcQ
    subst e1
    have e2 : Q = n := by omega
    subst e2
    go_enter Tryd.func38, Tryd.ntmps38
    go_wp2_with fail
    refine (rvget_good _ l _ ((unhide HV).below ((Below.refl _ _).alloc (Nat.le_refl _) _)) id Q (unhide Hhv)).mono ?_
    rintro e w1 ⟨rfl, hb1⟩
    have HB1 : Hid (Below w.heap.size w w1) := ((Below.refl _ _).alloc (Nat.le_refl _) _).trans (hb1.mono (by simp))
    have HD : Hid (Byt w1 (.slice (some ⟨b, off, none⟩) 0 0) (l.drop Q)) := by
      show Byt _ _ _
      have := ((unhide HV).below (unhide HB1)).drop' Q (by omega)
      rw [if_pos rfl, Nat.sub_self] at this; exact this
    have q0 : w1.cell? ⟨w.heap.size, 0, none⟩ = some (.int .i64 0) := (hb1.cell (p := ⟨w.heap.size, 0, none⟩) (by simp)).trans (by simp)
    have f0 : w1.frozen? ⟨w.heap.size, 0, none⟩ = false := (hb1.frozen (p := ⟨w.heap.size, 0, none⟩) (by simp)).trans (by simp)
    have q1 : w1.cell? ⟨w.heap.size, 1, none⟩ = some (.int .i64 0) := (hb1.cell (p := ⟨w.heap.size, 1, none⟩) (by simp)).trans (by simp)
    have f1 : w1.frozen? ⟨w.heap.size, 1, none⟩ = false := (hb1.frozen (p := ⟨w.heap.size, 1, none⟩) (by simp)).trans (by simp)
    have q2 : w1.cell? ⟨w.heap.size, 2, none⟩ = some (.string ⟨#[]⟩) := (hb1.cell (p := ⟨w.heap.size, 2, none⟩) (by simp)).trans (by simp)
    have f2 : w1.frozen? ⟨w.heap.size, 2, none⟩ = false := (hb1.frozen (p := ⟨w.heap.size, 2, none⟩) (by simp)).trans (by simp)
    have q3 : w1.cell? ⟨w.heap.size, 3, none⟩ = some (.string ⟨#[]⟩) := (hb1.cell (p := ⟨w.heap.size, 3, none⟩) (by simp)).trans (by simp)
    have f3 : w1.frozen? ⟨w.heap.size, 3, none⟩ = false := (hb1.frozen (p := ⟨w.heap.size, 3, none⟩) (by simp)).trans (by simp)
    have hl1 : w.heap.size < w1.heap.size := cell_lt q0
    have hne : ¬ w1.heap.size = w.heap.size := by omega
    clear hb1
    go_wp2_with (first | (go_at_call 39; refine (kind_tell id 8 (unhide HKD) _).mono ?_; rintro e w2 ⟨rfl, hw⟩; obtain rfl := hw.symm; clear hw) | fail)
    refine (rtget_fail _ _ _ ((unhide HD).below ((Below.refl _ _).alloc (Nat.le_refl _) _)) m (unhide Hhg)).mono ?_
    rintro e w2 ⟨a, b2, rfl, hb2⟩
    have p0 : w2.cell? ⟨w1.heap.size, 0, none⟩ = some (.int .i64 id) := (hb2.cell (p := ⟨w1.heap.size, 0, none⟩) (by simp)).trans (by simp)
    have h0 : w2.frozen? ⟨w1.heap.size, 0, none⟩ = false := (hb2.frozen (p := ⟨w1.heap.size, 0, none⟩) (by simp)).trans (by simp)
    have p1 : w2.cell? ⟨w1.heap.size, 1, none⟩ = some (.int .i64 0) := (hb2.cell (p := ⟨w1.heap.size, 1, none⟩) (by simp)).trans (by simp)
    have h1 : w2.frozen? ⟨w1.heap.size, 1, none⟩ = false := (hb2.frozen (p := ⟨w1.heap.size, 1, none⟩) (by simp)).trans (by simp)
    have p2 : w2.cell? ⟨w1.heap.size, 2, none⟩ = some (.string ⟨#[]⟩) := (hb2.cell (p := ⟨w1.heap.size, 2, none⟩) (by simp)).trans (by simp)
    have h2 : w2.frozen? ⟨w1.heap.size, 2, none⟩ = false := (hb2.frozen (p := ⟨w1.heap.size, 2, none⟩) (by simp)).trans (by simp)
    have p3 : w2.cell? ⟨w1.heap.size, 3, none⟩ = some (.string ⟨#[]⟩) := (hb2.cell (p := ⟨w1.heap.size, 3, none⟩) (by simp)).trans (by simp)
    have h3 : w2.frozen? ⟨w1.heap.size, 3, none⟩ = false := (hb2.frozen (p := ⟨w1.heap.size, 3, none⟩) (by simp)).trans (by simp)
    have r0 : w2.cell? ⟨w.heap.size, 0, none⟩ = some (.int .i64 0) := (hb2.cell (p := ⟨w.heap.size, 0, none⟩) (by simp; omega)).trans ((World.cell?_alloc_lt _ _ ⟨w.heap.size, 0, none⟩ (by exact hl1)).trans q0)
    have r1 : w2.cell? ⟨w.heap.size, 1, none⟩ = some (.int .i64 0) := (hb2.cell (p := ⟨w.heap.size, 1, none⟩) (by simp; omega)).trans ((World.cell?_alloc_lt _ _ ⟨w.heap.size, 1, none⟩ (by exact hl1)).trans q1)
    have r2 : w2.cell? ⟨w.heap.size, 2, none⟩ = some (.string ⟨#[]⟩) := (hb2.cell (p := ⟨w.heap.size, 2, none⟩) (by simp; omega)).trans ((World.cell?_alloc_lt _ _ ⟨w.heap.size, 2, none⟩ (by exact hl1)).trans q2)
    have r3 : w2.cell? ⟨w.heap.size, 3, none⟩ = some (.string ⟨#[]⟩) := (hb2.cell (p := ⟨w.heap.size, 3, none⟩) (by simp; omega)).trans ((World.cell?_alloc_lt _ _ ⟨w.heap.size, 3, none⟩ (by exact hl1)).trans q3)
    have g0 : w2.frozen? ⟨w.heap.size, 0, none⟩ = false := (hb2.frozen (p := ⟨w.heap.size, 0, none⟩) (by simp; omega)).trans ((((Below.refl w1.heap.size w1).alloc (Nat.le_refl _) _).frozen (p := ⟨w.heap.size, 0, none⟩) hl1).trans f0)
    have g1 : w2.frozen? ⟨w.heap.size, 1, none⟩ = false := (hb2.frozen (p := ⟨w.heap.size, 1, none⟩) (by simp; omega)).trans ((((Below.refl w1.heap.size w1).alloc (Nat.le_refl _) _).frozen (p := ⟨w.heap.size, 1, none⟩) hl1).trans f1)
    have g2 : w2.frozen? ⟨w.heap.size, 2, none⟩ = false := (hb2.frozen (p := ⟨w.heap.size, 2, none⟩) (by simp; omega)).trans ((((Below.refl w1.heap.size w1).alloc (Nat.le_refl _) _).frozen (p := ⟨w.heap.size, 2, none⟩) hl1).trans f2)
    have g3 : w2.frozen? ⟨w.heap.size, 3, none⟩ = false := (hb2.frozen (p := ⟨w.heap.size, 3, none⟩) (by simp; omega)).trans ((((Below.refl w1.heap.size w1).alloc (Nat.le_refl _) _).frozen (p := ⟨w.heap.size, 3, none⟩) hl1).trans f3)
    have HB2 : Hid (Below w.heap.size w w2) := ((unhide HB1).alloc (unhide HB1).size _).trans (hb2.mono (by simp; omega))
    clear hb2
    go_wp2
    (try simp only [Exit.inBlock, Exit.then])
    refine bodyPost_ret (res_p2 (B := w.heap.size) (v0 := .int .i64 id) (v1 := .int .i64 0) (v2 := .string a) (v3 := .string ⟨#[]⟩) rfl rfl ?c0 ?c1 ?c2 ?c3) rfl ?_
    case c0 => simp (maxDischargeDepth := 12) [cell_set, r0]
    case c1 => simp (maxDischargeDepth := 12) [cell_set, r1]
    case c2 => simp (maxDischargeDepth := 12) [cell_set, r2]
    case c3 => simp (maxDischargeDepth := 12) [cell_set, r3]
    exact ⟨_, _, _, _, rfl, by have := unhide HB2; go_grown⟩
  · go_enter Tryd.func38, Tryd.ntmps38
    go_wp2_with fail
    refine (rvget_good _ l _ ((unhide HV).below ((Below.refl _ _).alloc (Nat.le_refl _) _)) id Q (unhide Hhv)).mono ?_
    rintro e w1 ⟨rfl, hb1⟩
    have HB1 : Hid (Below w.heap.size w w1) := ((Below.refl _ _).alloc (Nat.le_refl _) _).trans (hb1.mono (by simp))
    have HD : Hid (Byt w1 (.slice (some ⟨b, off + Q, none⟩) (n - Q) (cap - Q)) (l.drop Q)) := by
      show Byt _ _ _
      have := ((unhide HV).below (unhide HB1)).drop' Q (by omega)
      rw [if_neg hcQ] at this; exact this
    have q0 : w1.cell? ⟨w.heap.size, 0, none⟩ = some (.int .i64 0) := (hb1.cell (p := ⟨w.heap.size, 0, none⟩) (by simp)).trans (by simp)
    have f0 : w1.frozen? ⟨w.heap.size, 0, none⟩ = false := (hb1.frozen (p := ⟨w.heap.size, 0, none⟩) (by simp)).trans (by simp)
    have q1 : w1.cell? ⟨w.heap.size, 1, none⟩ = some (.int .i64 0) := (hb1.cell (p := ⟨w.heap.size, 1, none⟩) (by simp)).trans (by simp)
    have f1 : w1.frozen? ⟨w.heap.size, 1, none⟩ = false := (hb1.frozen (p := ⟨w.heap.size, 1, none⟩) (by simp)).trans (by simp)
    have q2 : w1.cell? ⟨w.heap.size, 2, none⟩ = some (.string ⟨#[]⟩) := (hb1.cell (p := ⟨w.heap.size, 2, none⟩) (by simp)).trans (by simp)
    have f2 : w1.frozen? ⟨w.heap.size, 2, none⟩ = false := (hb1.frozen (p := ⟨w.heap.size, 2, none⟩) (by simp)).trans (by simp)
    have q3 : w1.cell? ⟨w.heap.size, 3, none⟩ = some (.string ⟨#[]⟩) := (hb1.cell (p := ⟨w.heap.size, 3, none⟩) (by simp)).trans (by simp)
    have f3 : w1.frozen? ⟨w.heap.size, 3, none⟩ = false := (hb1.frozen (p := ⟨w.heap.size, 3, none⟩) (by simp)).trans (by simp)
    have hl1 : w.heap.size < w1.heap.size := cell_lt q0
    have hne : ¬ w1.heap.size = w.heap.size := by omega
    clear hb1
    go_wp2_with (first | (go_at_call 39; refine (kind_tell id 8 (unhide HKD) _).mono ?_; rintro e w2 ⟨rfl, hw⟩; obtain rfl := hw.symm; clear hw) | fail)
    refine (rtget_fail _ _ _ ((unhide HD).below ((Below.refl _ _).alloc (Nat.le_refl _) _)) m (unhide Hhg)).mono ?_
    rintro e w2 ⟨a, b2, rfl, hb2⟩
    have p0 : w2.cell? ⟨w1.heap.size, 0, none⟩ = some (.int .i64 id) := (hb2.cell (p := ⟨w1.heap.size, 0, none⟩) (by simp)).trans (by simp)
    have h0 : w2.frozen? ⟨w1.heap.size, 0, none⟩ = false := (hb2.frozen (p := ⟨w1.heap.size, 0, none⟩) (by simp)).trans (by simp)
    have p1 : w2.cell? ⟨w1.heap.size, 1, none⟩ = some (.int .i64 0) := (hb2.cell (p := ⟨w1.heap.size, 1, none⟩) (by simp)).trans (by simp)
    have h1 : w2.frozen? ⟨w1.heap.size, 1, none⟩ = false := (hb2.frozen (p := ⟨w1.heap.size, 1, none⟩) (by simp)).trans (by simp)
    have p2 : w2.cell? ⟨w1.heap.size, 2, none⟩ = some (.string ⟨#[]⟩) := (hb2.cell (p := ⟨w1.heap.size, 2, none⟩) (by simp)).trans (by simp)
    have h2 : w2.frozen? ⟨w1.heap.size, 2, none⟩ = false := (hb2.frozen (p := ⟨w1.heap.size, 2, none⟩) (by simp)).trans (by simp)
    have p3 : w2.cell? ⟨w1.heap.size, 3, none⟩ = some (.string ⟨#[]⟩) := (hb2.cell (p := ⟨w1.heap.size, 3, none⟩) (by simp)).trans (by simp)
    have h3 : w2.frozen? ⟨w1.heap.size, 3, none⟩ = false := (hb2.frozen (p := ⟨w1.heap.size, 3, none⟩) (by simp)).trans (by simp)
    have r0 : w2.cell? ⟨w.heap.size, 0, none⟩ = some (.int .i64 0) := (hb2.cell (p := ⟨w.heap.size, 0, none⟩) (by simp; omega)).trans ((World.cell?_alloc_lt _ _ ⟨w.heap.size, 0, none⟩ (by exact hl1)).trans q0)
    have r1 : w2.cell? ⟨w.heap.size, 1, none⟩ = some (.int .i64 0) := (hb2.cell (p := ⟨w.heap.size, 1, none⟩) (by simp; omega)).trans ((World.cell?_alloc_lt _ _ ⟨w.heap.size, 1, none⟩ (by exact hl1)).trans q1)
    have r2 : w2.cell? ⟨w.heap.size, 2, none⟩ = some (.string ⟨#[]⟩) := (hb2.cell (p := ⟨w.heap.size, 2, none⟩) (by simp; omega)).trans ((World.cell?_alloc_lt _ _ ⟨w.heap.size, 2, none⟩ (by exact hl1)).trans q2)
    have r3 : w2.cell? ⟨w.heap.size, 3, none⟩ = some (.string ⟨#[]⟩) := (hb2.cell (p := ⟨w.heap.size, 3, none⟩) (by simp; omega)).trans ((World.cell?_alloc_lt _ _ ⟨w.heap.size, 3, none⟩ (by exact hl1)).trans q3)
    have g0 : w2.frozen? ⟨w.heap.size, 0, none⟩ = false := (hb2.frozen (p := ⟨w.heap.size, 0, none⟩) (by simp; omega)).trans ((((Below.refl w1.heap.size w1).alloc (Nat.le_refl _) _).frozen (p := ⟨w.heap.size, 0, none⟩) hl1).trans f0)
    have g1 : w2.frozen? ⟨w.heap.size, 1, none⟩ = false := (hb2.frozen (p := ⟨w.heap.size, 1, none⟩) (by simp; omega)).trans ((((Below.refl w1.heap.size w1).alloc (Nat.le_refl _) _).frozen (p := ⟨w.heap.size, 1, none⟩) hl1).trans f1)
    have g2 : w2.frozen? ⟨w.heap.size, 2, none⟩ = false := (hb2.frozen (p := ⟨w.heap.size, 2, none⟩) (by simp; omega)).trans ((((Below.refl w1.heap.size w1).alloc (Nat.le_refl _) _).frozen (p := ⟨w.heap.size, 2, none⟩) hl1).trans f2)
    have g3 : w2.frozen? ⟨w.heap.size, 3, none⟩ = false := (hb2.frozen (p := ⟨w.heap.size, 3, none⟩) (by simp; omega)).trans ((((Below.refl w1.heap.size w1).alloc (Nat.le_refl _) _).frozen (p := ⟨w.heap.size, 3, none⟩) hl1).trans f3)
    have HB2 : Hid (Below w.heap.size w w2) := ((unhide HB1).alloc (unhide HB1).size _).trans (hb2.mono (by simp; omega))
    clear hb2
    go_wp2
    (try simp only [Exit.inBlock, Exit.then])
    refine bodyPost_ret (res_p2 (B := w.heap.size) (v0 := .int .i64 id) (v1 := .int .i64 0) (v2 := .string a) (v3 := .string ⟨#[]⟩) rfl rfl ?c0 ?c1 ?c2 ?c3) rfl ?_
    case c0 => simp (maxDischargeDepth := 12) [cell_set, r0]
    case c1 => simp (maxDischargeDepth := 12) [cell_set, r1]
    case c2 => simp (maxDischargeDepth := 12) [cell_set, r2]
    case c3 => simp (maxDischargeDepth := 12) [cell_set, r3]
    exact ⟨_, _, _, _, rfl, by have := unhide HB2; go_grown⟩
theorem rg_id_bad (v : Value) (l : List Int) (w : World) (h : Byt w v l) (m : Int) (hv : (V.vget l).2.2 = m) (hm : m ≠ 0) : Calls Tryd.prog 38 #[v] w (RgBad w) := by
  obtain ⟨ao, cap, rfl, hc1, hc2⟩ := h.form
  have HV := hide h
  have Hhv := hide hv
  clear h hv
  generalize hn : l.length = n at hc1 HV
  go_enter Tryd.func38, Tryd.ntmps38
  go_wp2_with fail
  refine (rvget_fail _ l _ ((unhide HV).below ((Below.refl _ _).alloc (Nat.le_refl _) _)) m (unhide Hhv)).mono ?_
  rintro e w1 ⟨a, b, rfl, hb1⟩
  have HB1 : Hid (Below w.heap.size w w1) := ((Below.refl _ _).alloc (Nat.le_refl _) _).trans (hb1.mono (by simp))
  have q0 : w1.cell? ⟨w.heap.size, 0, none⟩ = some (.int .i64 0) := (hb1.cell (p := ⟨w.heap.size, 0, none⟩) (by simp)).trans (by simp)
  have f0 : w1.frozen? ⟨w.heap.size, 0, none⟩ = false := (hb1.frozen (p := ⟨w.heap.size, 0, none⟩) (by simp)).trans (by simp)
  have q1 : w1.cell? ⟨w.heap.size, 1, none⟩ = some (.int .i64 0) := (hb1.cell (p := ⟨w.heap.size, 1, none⟩) (by simp)).trans (by simp)
  have f1 : w1.frozen? ⟨w.heap.size, 1, none⟩ = false := (hb1.frozen (p := ⟨w.heap.size, 1, none⟩) (by simp)).trans (by simp)
  have q2 : w1.cell? ⟨w.heap.size, 2, none⟩ = some (.string ⟨#[]⟩) := (hb1.cell (p := ⟨w.heap.size, 2, none⟩) (by simp)).trans (by simp)
  have f2 : w1.frozen? ⟨w.heap.size, 2, none⟩ = false := (hb1.frozen (p := ⟨w.heap.size, 2, none⟩) (by simp)).trans (by simp)
  have q3 : w1.cell? ⟨w.heap.size, 3, none⟩ = some (.string ⟨#[]⟩) := (hb1.cell (p := ⟨w.heap.size, 3, none⟩) (by simp)).trans (by simp)
  have f3 : w1.frozen? ⟨w.heap.size, 3, none⟩ = false := (hb1.frozen (p := ⟨w.heap.size, 3, none⟩) (by simp)).trans (by simp)
  clear hb1
  go_wp2
  (try simp only [Exit.inBlock, Exit.then])
  refine bodyPost_ret (res_p2 (B := w.heap.size) (v0 := .int .i64 0) (v1 := .int .i64 0) (v2 := .string ⟨#[]⟩) (v3 := .string ⟨#[]⟩) rfl rfl ?c0 ?c1 ?c2 ?c3) rfl ?_
  case c0 => simp (maxDischargeDepth := 12) [cell_set, q0]
  case c1 => simp (maxDischargeDepth := 12) [cell_set, q1]
  case c2 => simp (maxDischargeDepth := 12) [cell_set, q2]
  case c3 => simp (maxDischargeDepth := 12) [cell_set, q3]
  exact ⟨_, _, _, _, rfl, by have := unhide HB1; go_grown⟩
end Go.Proofs.YtpfpollejhdbgaaDoor
