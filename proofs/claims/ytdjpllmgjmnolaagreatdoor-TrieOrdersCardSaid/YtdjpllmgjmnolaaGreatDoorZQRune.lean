/- Proved here: strings.IndexRune of a rune that is no ASCII, within the text of a plus and a hash, tells -1. Helper contract. -/
import Derived.Test.YtdjpllmgjmnolaaGreatDoorZQPlain
import Derived.Test.YtdjpllmgjmnolaaGreatDoorZQShelf
import Derived.Test.YtdjpllmgjmnolaaGreatDoorChecked
import Derived.Handy
import Derived.Laws.RangeAny
import Derived.Laws.Runes
import Derived.Deep.QuietTactic
import Derived.BigQuiet
import Derived.WalkMore
namespace Go.Proofs.YtdjpllmgjmnolaaGreatDoor
open Go.RowKit

set_option maxRecDepth 100000 in
set_option maxHeartbeats 1000000 in
theorem rune_err (w : World) :
    Calls Tryz.prog 95 #[.string ⟨#[43, 35]⟩, .int .i32 65533] w fun e w' => e = .returned (.int .i64 (-1)) ∧ Below w.heap.size w w' := by
  go_enter Tryz.func95, Tryz.ntmps95
  go_wp2
  go_loopg [5, 6] 2 (fun g _ _ wx => ∃ i : Nat, i + g = 2 ∧ wx = w.iter ⟨#[43, 35]⟩ i)
  case atStart => exact ⟨0, rfl, rfl⟩
  case round =>
    obtain ⟨i, hig, rfl⟩ := hrel
    obtain ⟨g, rfl⟩ | rfl : (∃ g, gk = g + 1) ∨ gk = 0 := by
      cases gk with
      | zero => exact .inr rfl
      | succ g => exact .inl ⟨g, rfl⟩
    · obtain rfl | rfl : i = 0 ∨ i = 1 := by omega
      · have hnx := fun ty => run_next_ascii (P := Tryz.prog) w ⟨#[43, 35]⟩ 0 ty (by decide) (by decide)
        go_wp2
        go_roundg g
        case measure => omega
        case rel => exact ⟨1, by omega, rfl⟩
      · have hnx := fun ty => run_next_ascii (P := Tryz.prog) w ⟨#[43, 35]⟩ 1 ty (by decide) (by decide)
        go_wp2
        go_roundg g
        case measure => omega
        case rel => exact ⟨2, by omega, rfl⟩
    · obtain rfl : i = 2 := by omega
      have hnx := fun ty => run_next_end (P := Tryz.prog) w ⟨#[43, 35]⟩ 2 ty (by decide)
      go_wp2
      go_ret
      exact ⟨rfl, (Below.refl _ _).alloc (Nat.le_refl _) _⟩
set_option maxRecDepth 100000 in
set_option maxHeartbeats 1000000 in
theorem rune_high (s : ByteArray) (hs : s.size = 2) (hb : ∀ h : 1 < s.size, (s[1]'h).toNat < 128) (r : Int) (w : World) (h0 : 128 ≤ r) (h1 : r ≤ 2147483647) (hne : r ≠ 65533) :
    Calls Tryz.prog 95 #[.string s, .int .i32 r] w fun e w' => e = .returned (.int .i64 (-1)) ∧ Below w.heap.size w w' := by
  have hn : (r == 65533) = false := beq_eq_false_iff_ne.2 hne
  have hlt : ¬ (r < 128) := by omega
  cases hv : Lib.validRune r
  · go_enter Tryz.func95, Tryz.ntmps95
    go_wp2_with (first | (go_at_call 112; refine (Tryz.utf8_ValidRune _ _).mono ?_; rintro e w' ⟨rfl, rfl⟩; rw [hv]))
    go_ret
    exact ⟨rfl, Below.refl _ _⟩
  · have hval : Utf8.valid r = true := by
      have h2 : Lib.validRune r = true := hv
      unfold Lib.validRune at h2
      unfold Utf8.valid
      simp at h2 ⊢
      omega
    obtain ⟨f1, f2, f3⟩ := encode_facts r hval h0
    have hconv : ∀ w, (convert 21 9 (.int .i32 r)).run Tryz.prog w = .ok (.string (Utf8.encode r)) w := fun w => run_convert_int_string w 21 9 .i32 r (by kernel_rfl) Tryz.underlying9
    generalize Utf8.encode r = rs at f1 f2 f3 hconv
    clear hval
    go_enter Tryz.func95, Tryz.ntmps95
    go_wp2_with (first | (go_at_call 112; refine (Tryz.utf8_ValidRune _ _).mono ?_; rintro e w' ⟨rfl, rfl⟩; rw [hv]))
    apply wp_scope_straight
    rcases Nat.lt_or_ge 2 rs.size with h2 | h2
    · go_wp2
      go_loop [9] (fun i => i = .int .i64 (rs.size - 1)) (fun _ => 0)
      case atStart => rfl
      case round =>
        subst hrel
        have hi : ¬ ((rs.size : Int) - 1 < s.size) := by omega
        go_wp2
        try (rw [Exit.noGoto_ret]; go_wp2)
        go_ret
        exact ⟨rfl, Below.refl _ _⟩
    · have hsz : rs.size = 2 := by omega
      have hr1 : 1 < rs.size := by omega
      have hy : 128 ≤ (rs[1]'hr1).toNat := by
        have := f3 (by omega)
        simpa [hsz] using this
      clear f3 f1 f2 h2
      have h1s : 1 < s.size := by omega
      have hx1 := hb h1s
      have hne : ((s[1].toNat : Int) == (rs[1].toNat : Int)) = false := beq_eq_false_iff_ne.2 (by omega)
      have hwr : IntKind.i64.wrap 2 = 2 := by decide
      have hem : s.extract 2 2 = ByteArray.empty := by apply ByteArray.ext; simp
      have hix : ∀ (z : Int) w, Calls Tryz.prog 111 #[.string ByteArray.empty, .int .u8 z] w fun e w' => e = .returned (.int .i64 (-1)) ∧ w' = w := fun z w => Tryz.strings_IndexByte ByteArray.empty z w
      go_wp2
      go_loop [9] (fun i => i = .int .i64 1) (fun _ => 0)
      case atStart => rfl
      case round =>
        subst hrel
        go_wp2
        go_step3
        go_wp2
        go_quiet (fail)
        have HB : Hid (Below w'.heap.size w' (w'.drewN nq)) := below_drewN (Below.refl _ _) nq
        generalize w'.drewN nq = w2 at HB ⊢
        go_wp2
        go_quiet ((go_at_call 111; exact Calls.quiet_of_same (hix _ _)))
        go_wp2
        rw [Exit.noGoto_ret]
        go_wp2
        rw [Exit.noGoto_ret]
        go_wp2
        go_ret
        exact ⟨rfl, below_drewN (unhide HB) _⟩
end Go.Proofs.YtdjpllmgjmnolaaGreatDoor
