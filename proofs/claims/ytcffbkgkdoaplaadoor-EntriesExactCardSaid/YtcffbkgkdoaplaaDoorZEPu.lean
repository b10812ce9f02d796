/- Proved here: entries.Last, Term and Newer: what they tell of any log. Helper contracts. -/
import Derived.Test.YtcffbkgkdoaplaaDoorZEFa
namespace Go.Proofs.YtcffbkgkdoaplaaDoor.Et
open Go.RowKit Nt
set_option maxRecDepth 100000

/-- the end of a log, with the error's number ahead -/
def lastR (L : Lo) : Int × Int × Int := if May L then (0, lastI L, lastT L) else (1, 0, 0)
def termR (L : Lo) (i : Int) : Int × Int := if May L then (match termAt L i with | none => (8, 0) | some t => (0, t)) else (1, 0)
def newR (L : Lo) (i t : Int) : Int × Bool := if May L then (0, newB L i t) else (1, false)
theorem lastR_ok {L : Lo} (h : May L) : lastR L = (0, lastI L, lastT L) := if_pos h
theorem lastR_bad {L : Lo} (h : ¬ May L) : lastR L = (1, 0, 0) := if_neg h
theorem termR_bad {L : Lo} (h : ¬ May L) (i : Int) : termR L i = (1, 0) := if_neg h
theorem termR_ok {L : Lo} (h : May L) (i : Int) : termR L i = (match termAt L i with | none => (8, 0) | some t => (0, t)) := if_pos h
theorem newR_ok {L : Lo} (h : May L) (i t : Int) : newR L i t = (0, newB L i t) := if_pos h
theorem newR_bad {L : Lo} (h : ¬ May L) (i t : Int) : newR L i t = (1, false) := if_neg h
set_option maxHeartbeats 4000000 in
theorem lastE_any (b t : Int) (ao : Option Addr) (n cap : Nat) (l : List En) (w : World) (h : Es w ao n cap l) :
    Calls Tryd.prog 18 #[.agg #[.int .i64 b, .int .i64 t, .slice ao n cap]] w fun e w' => ∃ E, e = .returned (.tuple #[.int .i64 (lastR ⟨b, t, l⟩).2.1, .int .i64 (lastR ⟨b, t, l⟩).2.2, E]) ∧ Hid (ErrX w' E (lastR ⟨b, t, l⟩).1) ∧ Hid (Below w.heap.size w w') := by
  have HB0 : Hid (Below w.heap.size w (w.alloc (.cells #[.int .i64 b, .int .i64 t, .slice ao n cap] 25))) := (Below.refl _ _).alloc (Nat.le_refl _) _
  have HE := hide h
  by_cases hm : May ⟨b, t, l⟩
  · rw [lastR_ok hm]
    obtain ⟨I, hI⟩ : ∃ I, I = lastI ⟨b, t, l⟩ := ⟨_, rfl⟩
    obtain ⟨T, hT⟩ : ∃ T, T = lastT ⟨b, t, l⟩ := ⟨_, rfl⟩
    have HI := hide hI
    have HT := hide hT
    have HM := hide hm
    rw [← hI, ← hT]
    clear hI hT hm h
    go_enter Tryd.func18, Tryd.ntmps18
    go_wp2_with fail
    refine (check_ok b t ao n cap l _ ((unhide HE).below (unhide HB0)) (unhide HM)).mono ?_
    rintro e w2 ⟨rfl, hb⟩
    have HB : Hid (Below w.heap.size w w2) := bnx (unhide HB0) hb
    have c0 : w2.cell? ⟨w.heap.size, 0, none⟩ = some (.int .i64 b) := (hb.cell (by simp)).trans (by simp)
    have c1 : w2.cell? ⟨w.heap.size, 1, none⟩ = some (.int .i64 t) := (hb.cell (by simp)).trans (by simp)
    have c2 : w2.cell? ⟨w.heap.size, 2, none⟩ = some (.slice ao n cap) := (hb.cell (by simp)).trans (by simp)
    clear hb
    go_wp2_with fail
    refine (last_any b t ao n cap l _ ((unhide HE).below (unhide HB)) (unhide HM)).mono ?_
    rw [← unhide HI, ← unhide HT]
    rintro e w3 ⟨rfl, hb3⟩
    have HB3 : Hid (Below w.heap.size w w3) := bnx (unhide HB) hb3
    clear hb3
    go_wp2
    go_ret3
    exact ⟨_, rfl, .inl ⟨rfl, rfl⟩, HB3⟩
  · rw [lastR_bad hm]
    have HM := hide hm
    clear hm h
    go_enter Tryd.func18, Tryd.ntmps18
    go_wp2_with fail
    refine (check_bad b t ao n cap l _ ((unhide HE).below (unhide HB0)) (unhide HM)).mono ?_
    rintro e w2 ⟨x, rfl, HER, HB2⟩
    go_wp2
    go_ret3
    exact ⟨_, rfl, (unhide HER).errX, bnx (unhide HB0) (unhide HB2)⟩
set_option maxHeartbeats 4000000 in
theorem termE_any (b t : Int) (ao : Option Addr) (n cap : Nat) (l : List En) (i : Int) (w : World) (h : Es w ao n cap l) :
    Calls Tryd.prog 19 #[.agg #[.int .i64 b, .int .i64 t, .slice ao n cap], .int .i64 i] w fun e w' => ∃ E, e = .returned (.tuple #[.int .i64 (termR ⟨b, t, l⟩ i).2, E]) ∧ Hid (ErrX w' E (termR ⟨b, t, l⟩ i).1) ∧ Hid (Below w.heap.size w w') := by
  have HB0 : Hid (Below w.heap.size w (w.alloc (.cells #[.int .i64 b, .int .i64 t, .slice ao n cap] 25))) := (Below.refl _ _).alloc (Nat.le_refl _) _
  have HE := hide h
  by_cases hm : May ⟨b, t, l⟩
  · rw [termR_ok hm]
    have HM := hide hm
    obtain ⟨d, hd⟩ : ∃ d, d = termAt ⟨b, t, l⟩ i := ⟨_, rfl⟩
    have HD := hide hd
    rw [← hd]
    clear hd hm h
    rcases d with _ | u
    · go_enter Tryd.func19, Tryd.ntmps19
      go_wp2_with fail
      refine (check_ok b t ao n cap l _ ((unhide HE).below (unhide HB0)) (unhide HM)).mono ?_
      rintro e w2 ⟨rfl, hb⟩
      have HB : Hid (Below w.heap.size w w2) := bnx (unhide HB0) hb
      have c0 : w2.cell? ⟨w.heap.size, 0, none⟩ = some (.int .i64 b) := (hb.cell (by simp)).trans (by simp)
      have c1 : w2.cell? ⟨w.heap.size, 1, none⟩ = some (.int .i64 t) := (hb.cell (by simp)).trans (by simp)
      have c2 : w2.cell? ⟨w.heap.size, 2, none⟩ = some (.slice ao n cap) := (hb.cell (by simp)).trans (by simp)
      clear hb
      go_wp2_with fail
      refine (termAt_any b t ao n cap l i _ ((unhide HE).below (unhide HB)) (unhide HM)).mono ?_
      rw [← unhide HD]
      rintro e w3 ⟨rfl, hb3⟩
      have HB3 : Hid (Below w.heap.size w w3) := bnx (unhide HB) hb3
      clear hb3
      unfold tmRes
      go_wp2_with fail
      refine (fault_n 8 w3).mono ?_
      rintro e w4 ⟨x, rfl, HER, HB4⟩
      go_wp2
      go_ret2
      exact ⟨_, rfl, (unhide HER).errX, bnx (unhide HB3) (unhide HB4)⟩
    · go_enter Tryd.func19, Tryd.ntmps19
      go_wp2_with fail
      refine (check_ok b t ao n cap l _ ((unhide HE).below (unhide HB0)) (unhide HM)).mono ?_
      rintro e w2 ⟨rfl, hb⟩
      have HB : Hid (Below w.heap.size w w2) := bnx (unhide HB0) hb
      have c0 : w2.cell? ⟨w.heap.size, 0, none⟩ = some (.int .i64 b) := (hb.cell (by simp)).trans (by simp)
      have c1 : w2.cell? ⟨w.heap.size, 1, none⟩ = some (.int .i64 t) := (hb.cell (by simp)).trans (by simp)
      have c2 : w2.cell? ⟨w.heap.size, 2, none⟩ = some (.slice ao n cap) := (hb.cell (by simp)).trans (by simp)
      clear hb
      go_wp2_with fail
      refine (termAt_any b t ao n cap l i _ ((unhide HE).below (unhide HB)) (unhide HM)).mono ?_
      rw [← unhide HD]
      rintro e w3 ⟨rfl, hb3⟩
      have HB3 : Hid (Below w.heap.size w w3) := bnx (unhide HB) hb3
      clear hb3
      unfold tmRes
      go_wp2
      go_ret2
      exact ⟨_, rfl, .inl ⟨rfl, rfl⟩, HB3⟩
  · rw [termR_bad hm]
    have HM := hide hm
    clear hm h
    go_enter Tryd.func19, Tryd.ntmps19
    go_wp2_with fail
    refine (check_bad b t ao n cap l _ ((unhide HE).below (unhide HB0)) (unhide HM)).mono ?_
    rintro e w2 ⟨x, rfl, HER, HB2⟩
    go_wp2
    go_ret2
    exact ⟨_, rfl, (unhide HER).errX, bnx (unhide HB0) (unhide HB2)⟩
theorem newB_eq {L : Lo} {i t : Int} {d : Bool} (h : lastT L < t ∧ d = true ∨ ¬ lastT L < t ∧ t = lastT L ∧ d = decide (lastI L ≤ i) ∨ ¬ lastT L < t ∧ ¬ t = lastT L ∧ d = false) : newB L i t = d := by
  unfold newB
  rcases h with ⟨h1, rfl⟩ | ⟨h1, h2, rfl⟩ | ⟨h1, h2, rfl⟩
  · simp [h1]
  · simp [h2]
  · simp [h1, h2]
set_option maxHeartbeats 4000000 in
theorem newE_any (b t : Int) (ao : Option Addr) (n cap : Nat) (l : List En) (i u : Int) (w : World) (h : Es w ao n cap l) :
    Calls Tryd.prog 20 #[.agg #[.int .i64 b, .int .i64 t, .slice ao n cap], .int .i64 i, .int .i64 u] w fun e w' => ∃ E, e = .returned (.tuple #[.bool (newR ⟨b, t, l⟩ i u).2, E]) ∧ Hid (ErrX w' E (newR ⟨b, t, l⟩ i u).1) ∧ Hid (Below w.heap.size w w') := by
  have HB0 : Hid (Below w.heap.size w (w.alloc (.cells #[.int .i64 b, .int .i64 t, .slice ao n cap] 25))) := (Below.refl _ _).alloc (Nat.le_refl _) _
  have HE := hide h
  by_cases hm : May ⟨b, t, l⟩
  · rw [newR_ok hm]
    obtain ⟨I, hI⟩ : ∃ I, I = lastI ⟨b, t, l⟩ := ⟨_, rfl⟩
    obtain ⟨T, hT⟩ : ∃ T, T = lastT ⟨b, t, l⟩ := ⟨_, rfl⟩
    have HNB := fun d => @newB_eq ⟨b, t, l⟩ i u d
    rw [← hI, ← hT] at HNB
    have HN := hide HNB
    have HI := hide hI
    have HT := hide hT
    have HM := hide hm
    clear hI hT hm h HNB
    by_cases h1 : T < u
    · have HF : Hid (newB ⟨b, t, l⟩ i u = true) := unhide HN _ (.inl ⟨h1, rfl⟩)
      rw [unhide HF]
      go_enter Tryd.func20, Tryd.ntmps20
      go_wp2_with fail
      refine (check_ok b t ao n cap l _ ((unhide HE).below (unhide HB0)) (unhide HM)).mono ?_
      rintro e w2 ⟨rfl, hb⟩
      have HB : Hid (Below w.heap.size w w2) := bnx (unhide HB0) hb
      have c0 : w2.cell? ⟨w.heap.size, 0, none⟩ = some (.int .i64 b) := (hb.cell (by simp)).trans (by simp)
      have c1 : w2.cell? ⟨w.heap.size, 1, none⟩ = some (.int .i64 t) := (hb.cell (by simp)).trans (by simp)
      have c2 : w2.cell? ⟨w.heap.size, 2, none⟩ = some (.slice ao n cap) := (hb.cell (by simp)).trans (by simp)
      clear hb
      go_wp2_with fail
      refine (last_any b t ao n cap l _ ((unhide HE).below (unhide HB)) (unhide HM)).mono ?_
      rw [← unhide HI, ← unhide HT]
      rintro e w3 ⟨rfl, hb3⟩
      have HB3 : Hid (Below w.heap.size w w3) := bnx (unhide HB) hb3
      clear hb3 HN
      go_wp2
      go_ret2
      exact ⟨_, rfl, .inl ⟨rfl, rfl⟩, HB3⟩
    · by_cases h2 : u = T
      · by_cases h3 : I ≤ i
        · have HF : Hid (newB ⟨b, t, l⟩ i u = true) := unhide HN _ (.inr (.inl ⟨h1, h2, (decide_eq_true h3).symm⟩))
          clear h1
          subst h2
          rw [unhide HF]
          go_enter Tryd.func20, Tryd.ntmps20
          go_wp2_with fail
          refine (check_ok b t ao n cap l _ ((unhide HE).below (unhide HB0)) (unhide HM)).mono ?_
          rintro e w2 ⟨rfl, hb⟩
          have HB : Hid (Below w.heap.size w w2) := bnx (unhide HB0) hb
          have c0 : w2.cell? ⟨w.heap.size, 0, none⟩ = some (.int .i64 b) := (hb.cell (by simp)).trans (by simp)
          have c1 : w2.cell? ⟨w.heap.size, 1, none⟩ = some (.int .i64 t) := (hb.cell (by simp)).trans (by simp)
          have c2 : w2.cell? ⟨w.heap.size, 2, none⟩ = some (.slice ao n cap) := (hb.cell (by simp)).trans (by simp)
          clear hb
          go_wp2_with fail
          refine (last_any b t ao n cap l _ ((unhide HE).below (unhide HB)) (unhide HM)).mono ?_
          rw [← unhide HI, ← unhide HT]
          rintro e w3 ⟨rfl, hb3⟩
          have HB3 : Hid (Below w.heap.size w w3) := bnx (unhide HB) hb3
          clear hb3 HN
          go_wp2
          go_ret2
          exact ⟨_, rfl, .inl ⟨rfl, rfl⟩, HB3⟩
        · have HF : Hid (newB ⟨b, t, l⟩ i u = false) := unhide HN _ (.inr (.inl ⟨h1, h2, (decide_eq_false h3).symm⟩))
          clear h1
          subst h2
          have h3d : decide (I ≤ i) = false := decide_eq_false h3
          rw [unhide HF]
          go_enter Tryd.func20, Tryd.ntmps20
          go_wp2_with fail
          refine (check_ok b t ao n cap l _ ((unhide HE).below (unhide HB0)) (unhide HM)).mono ?_
          rintro e w2 ⟨rfl, hb⟩
          have HB : Hid (Below w.heap.size w w2) := bnx (unhide HB0) hb
          have c0 : w2.cell? ⟨w.heap.size, 0, none⟩ = some (.int .i64 b) := (hb.cell (by simp)).trans (by simp)
          have c1 : w2.cell? ⟨w.heap.size, 1, none⟩ = some (.int .i64 t) := (hb.cell (by simp)).trans (by simp)
          have c2 : w2.cell? ⟨w.heap.size, 2, none⟩ = some (.slice ao n cap) := (hb.cell (by simp)).trans (by simp)
          clear hb
          go_wp2_with fail
          refine (last_any b t ao n cap l _ ((unhide HE).below (unhide HB)) (unhide HM)).mono ?_
          rw [← unhide HI, ← unhide HT]
          rintro e w3 ⟨rfl, hb3⟩
          have HB3 : Hid (Below w.heap.size w w3) := bnx (unhide HB) hb3
          clear hb3 HN
          go_wp2
          go_ret2
          exact ⟨_, rfl, .inl ⟨rfl, rfl⟩, HB3⟩
      · have HF : Hid (newB ⟨b, t, l⟩ i u = false) := unhide HN _ (.inr (.inr ⟨h1, h2, rfl⟩))
        have h1d : decide (T < u) = false := decide_eq_false h1
        have h2d : (u == T) = false := beq_eq_false_iff_ne.2 h2
        rw [unhide HF]
        go_enter Tryd.func20, Tryd.ntmps20
        go_wp2_with fail
        refine (check_ok b t ao n cap l _ ((unhide HE).below (unhide HB0)) (unhide HM)).mono ?_
        rintro e w2 ⟨rfl, hb⟩
        have HB : Hid (Below w.heap.size w w2) := bnx (unhide HB0) hb
        have c0 : w2.cell? ⟨w.heap.size, 0, none⟩ = some (.int .i64 b) := (hb.cell (by simp)).trans (by simp)
        have c1 : w2.cell? ⟨w.heap.size, 1, none⟩ = some (.int .i64 t) := (hb.cell (by simp)).trans (by simp)
        have c2 : w2.cell? ⟨w.heap.size, 2, none⟩ = some (.slice ao n cap) := (hb.cell (by simp)).trans (by simp)
        clear hb
        go_wp2_with fail
        refine (last_any b t ao n cap l _ ((unhide HE).below (unhide HB)) (unhide HM)).mono ?_
        rw [← unhide HI, ← unhide HT]
        rintro e w3 ⟨rfl, hb3⟩
        have HB3 : Hid (Below w.heap.size w w3) := bnx (unhide HB) hb3
        clear hb3 HN
        go_wp2
        go_ret2
        exact ⟨_, rfl, .inl ⟨rfl, rfl⟩, HB3⟩
  · rw [newR_bad hm]
    have HM := hide hm
    clear hm h
    go_enter Tryd.func20, Tryd.ntmps20
    go_wp2_with fail
    refine (check_bad b t ao n cap l _ ((unhide HE).below (unhide HB0)) (unhide HM)).mono ?_
    rintro e w2 ⟨x, rfl, HER, HB2⟩
    go_wp2
    go_ret2
    exact ⟨_, rfl, (unhide HER).errX, bnx (unhide HB0) (unhide HB2)⟩
end Go.Proofs.YtcffbkgkdoaplaaDoor.Et
