/- Proved here: entries.last and dovecoteref15.Last: where a log that may be ends. Helper contracts. -/
import Derived.Test.YtcffbkgkdoaplaaDoorZELg
namespace Go.Proofs.YtcffbkgkdoaplaaDoor.Et
open Go.RowKit Nt
set_option maxRecDepth 100000

theorem tup2 {a b a' b' : Int} (h : a = a') (h2 : b = b') : Ending.returned (.tuple #[.int .i64 a, .int .i64 b]) = .returned (.tuple #[.int .i64 a', .int .i64 b']) := by rw [h, h2]
theorem drew_below {w w1 : World} (h : Below w.heap.size w w1) (k : Nat) : Below w.heap.size w (w1.drewN k) := below_drewN h k
set_option maxHeartbeats 2000000 in
theorem last_any (b t : Int) (ao : Option Addr) (n cap : Nat) (l : List En) (w : World) (h : Es w ao n cap l) (hm : May ⟨b, t, l⟩) :
    Calls Tryd.prog 37 #[.agg #[.int .i64 b, .int .i64 t, .slice ao n cap]] w fun e w' => e = .returned (.tuple #[.int .i64 (lastI ⟨b, t, l⟩), .int .i64 (lastT ⟨b, t, l⟩)]) ∧ Below w.heap.size w w' := by
  have HB0 : Hid (Below w.heap.size w (w.alloc (.cells #[.int .i64 b, .int .i64 t, .slice ao n cap] 25))) := (Below.refl _ _).alloc (Nat.le_refl _) _
  obtain ⟨h1, h2, h3, h4, h5⟩ := h
  rcases h5 with rfl | ⟨bb, off, rfl, hc⟩
  · have hl : l = [] := List.length_eq_zero_iff.1 h1
    subst hl
    clear hm h1
    go_enter Tryd.func37, Tryd.ntmps37
    go_wp2
    go_quiet (fail)
    go_wp2
    go_ret2
    exact ⟨tup2 (by simp [lastI]) rfl, drew_below (unhide HB0) _⟩
  · rcases n with _ | m
    · have hl : l = [] := List.length_eq_zero_iff.1 h1
      subst hl
      clear hm h1 hc
      go_enter Tryd.func37, Tryd.ntmps37
      go_wp2
      go_quiet (fail)
      go_wp2
      go_ret2
      exact ⟨tup2 (by simp [lastI]) rfl, drew_below (unhide HB0) _⟩
    · have HI : Hid ((en0 l m).1 = lastI ⟨b, t, l⟩) := by
        show _ = _
        have := hm.idx m (by show m < l.length; omega)
        unfold lastI
        show (en0 l m).1 = b + (l.length : Nat)
        rw [h1]
        have e : (en0 l m).1 = b + 1 + (m : Nat) := this
        omega
      have HT : Hid ((en0 l m).2.1 = lastT ⟨b, t, l⟩) := by
        show _ = _
        unfold lastT
        show (en0 l m).2.1 = tmB t l l.length
        rw [h1]
        rfl
      obtain ⟨c0, c1, _, _⟩ := (hc.below (unhide HB0)) m (by omega)
      have hw : IntKind.i64.wrap (((m + 1 : Nat) : Int) - 1) = (m : Int) := by rw [IntKind.wrap_i64]; omega
      have hmx : m + 1 ≤ 3518437208780 := h4
      generalize (en0 l m).1 = x at c0 HI
      generalize (en0 l m).2.1 = y at c1 HT
      clear hm h1 hc h2 h3 h4
      go_enter Tryd.func37, Tryd.ntmps37
      go_wp2
      go_quiet (fail)
      go_wp2
      go_ret2
      exact ⟨tup2 (unhide HI) (unhide HT), drew_below (unhide HB0) _⟩
set_option maxHeartbeats 2000000 in
theorem lastP_any (b t : Int) (ao : Option Addr) (n cap : Nat) (l : List En) (w : World) (h : Es w ao n cap l) (hm : May ⟨b, t, l⟩) :
    Calls Tryd.prog 9 #[.agg #[.int .i64 b, .int .i64 t, .slice ao n cap]] w fun e w' => e = .returned (.tuple #[.int .i64 (lastI ⟨b, t, l⟩), .int .i64 (lastT ⟨b, t, l⟩)]) ∧ Below w.heap.size w w' := by
  have HB0 : Hid (Below w.heap.size w (w.alloc (.cells #[.int .i64 b, .int .i64 t, .slice ao n cap] 25))) := (Below.refl _ _).alloc (Nat.le_refl _) _
  obtain ⟨h1, h2, h3, h4, h5⟩ := h
  rcases h5 with rfl | ⟨bb, off, rfl, hc⟩
  · have hl : l = [] := List.length_eq_zero_iff.1 h1
    subst hl
    clear hm h1
    go_enter Tryd.func9, Tryd.ntmps9
    go_wp2
    go_quiet (fail)
    go_wp2
    go_ret2
    exact ⟨tup2 (by simp [lastI]) rfl, drew_below (unhide HB0) _⟩
  · rcases n with _ | m
    · have hl : l = [] := List.length_eq_zero_iff.1 h1
      subst hl
      clear hm h1 hc
      go_enter Tryd.func9, Tryd.ntmps9
      go_wp2
      go_quiet (fail)
      go_wp2
      go_ret2
      exact ⟨tup2 (by simp [lastI]) rfl, drew_below (unhide HB0) _⟩
    · have HI : Hid ((en0 l m).1 = lastI ⟨b, t, l⟩) := by
        show _ = _
        have := hm.idx m (by show m < l.length; omega)
        unfold lastI
        show (en0 l m).1 = b + (l.length : Nat)
        rw [h1]
        have e : (en0 l m).1 = b + 1 + (m : Nat) := this
        omega
      have HT : Hid ((en0 l m).2.1 = lastT ⟨b, t, l⟩) := by
        show _ = _
        unfold lastT
        show (en0 l m).2.1 = tmB t l l.length
        rw [h1]
        rfl
      obtain ⟨c0, c1, _, _⟩ := (hc.below (unhide HB0)) m (by omega)
      have hw : IntKind.i64.wrap (((m + 1 : Nat) : Int) - 1) = (m : Int) := by rw [IntKind.wrap_i64]; omega
      have hmx : m + 1 ≤ 3518437208780 := h4
      generalize (en0 l m).1 = x at c0 HI
      generalize (en0 l m).2.1 = y at c1 HT
      clear hm h1 hc h2 h3 h4
      go_enter Tryd.func9, Tryd.ntmps9
      go_wp2
      go_quiet (fail)
      go_wp2
      go_ret2
      exact ⟨tup2 (unhide HI) (unhide HT), drew_below (unhide HB0) _⟩
end Go.Proofs.YtcffbkgkdoaplaaDoor.Et
