/- Proved here: strings.ContainsAny at a plus and a hash, of any text, whatever its bytes are: whether one of its bytes is one of these. Helper contract. -/
import Derived.Test.YtdjpllmgjmnolaaGreatDoorZQRune
import Derived.Lib.OthersKept
namespace Go.Proofs.YtdjpllmgjmnolaaGreatDoor
open Go.RowKit

/-- the bytes of a rune that is no ASCII are no ASCII -/
theorem decode_span (s : ByteArray) (pos : Nat) (h : pos < s.size) (ha : 128 ≤ (s[pos]'h).toNat) : pos + (Utf8.decode s pos).2 ≤ s.size ∧ ∀ j, pos ≤ j → j < pos + (Utf8.decode s pos).2 → 128 ≤ (s.get! j).toNat := by
  have hg : s.get! (pos + 0) = s[pos]'h := get_at s pos h
  have h0 : 128 ≤ (s.get! (pos + 0)).toNat := by rw [hg]; exact ha
  have two : ∀ k, ((s.get! (pos + k)).toNat / 64 == 2) = true → 128 ≤ (s.get! (pos + k)).toNat := fun k hk => by have := beq_iff_eq.1 hk; omega
  have key : ∀ n j, pos ≤ j → j < pos + n → ∃ k, k < n ∧ j = pos + k := fun n j a b => ⟨j - pos, by omega, by omega⟩
  have k1 : ∀ j, pos ≤ j → j < pos + 1 → 128 ≤ (s.get! j).toNat := fun j a b => by
    obtain ⟨k, hk, rfl⟩ := key 1 j a b
    obtain rfl : k = 0 := by omega
    exact h0
  simp only [Utf8.decode]
  split
  · exact ⟨by show pos + 1 ≤ s.size; omega, k1⟩
  · split
    · rename_i hc
      simp only [Bool.and_eq_true, decide_eq_true_eq] at hc
      split
      · refine ⟨by show pos + 2 ≤ s.size; omega, fun j a b => ?_⟩
        obtain ⟨k, hk, rfl⟩ := key 2 j a b
        obtain rfl | rfl : k = 0 ∨ k = 1 := by omega
        · exact h0
        · exact two 1 hc.2.2
      · exact ⟨by show pos + 1 ≤ s.size; omega, k1⟩
    · split
      · rename_i hc
        simp only [Bool.and_eq_true, decide_eq_true_eq] at hc
        split
        · refine ⟨by show pos + 3 ≤ s.size; omega, fun j a b => ?_⟩
          obtain ⟨k, hk, rfl⟩ := key 3 j a b
          obtain rfl | rfl | rfl : k = 0 ∨ k = 1 ∨ k = 2 := by omega
          · exact h0
          · exact two 1 hc.1.2.2
          · exact two 2 hc.2.2
        · exact ⟨by show pos + 1 ≤ s.size; omega, k1⟩
      · split
        · rename_i hc
          simp only [Bool.and_eq_true, decide_eq_true_eq] at hc
          split
          · refine ⟨by show pos + 4 ≤ s.size; omega, fun j a b => ?_⟩
            obtain ⟨k, hk, rfl⟩ := key 4 j a b
            obtain rfl | rfl | rfl | rfl : k = 0 ∨ k = 1 ∨ k = 2 ∨ k = 3 := by omega
            · exact h0
            · exact two 1 hc.1.1.2.2
            · exact two 2 hc.1.2.2
            · exact two 3 hc.2.2
          · exact ⟨by show pos + 1 ≤ s.size; omega, k1⟩
        · exact ⟨by show pos + 1 ≤ s.size; omega, k1⟩
theorem get!_data (s : ByteArray) (j : Nat) (b : UInt8) (h : s.data.toList[j]? = some b) : s.get! j = b := by
  have hj : j < s.data.toList.length := by
    rcases Nat.lt_or_ge j s.data.toList.length with h1 | h1
    · exact h1
    · rw [List.getElem?_eq_none h1] at h; cases h
  rw [List.getElem?_eq_getElem hj] at h
  have hj' : j < s.data.size := by simpa using hj
  simp at h
  show s.data[j]! = b
  rw [getElem!_pos s.data j hj']
  exact h
/-- past such a rune still none -/
theorem noany_span (s : ByteArray) (i n : Nat) (hno : Lib.NoAny s.data.toList [43, 35] i) (hsp : ∀ j, i ≤ j → j < i + n → 128 ≤ (s.get! j).toNat) : Lib.NoAny s.data.toList [43, 35] (i + n) := by
  intro j b hj hb
  rcases Nat.lt_or_ge j i with h | h
  · exact hno j b h hb
  · have h1 := hsp j h hj
    rw [get!_data s j b hb] at h1
    simp
    constructor
    · rintro rfl; revert h1; decide
    · rintro rfl; revert h1; decide

theorem two_bytes : (⟨#[43, 35]⟩ : ByteArray).data.toList = [43, 35] := rfl
/-- IndexRune at a rune that is no ASCII -/
theorem rune_any (r : Int) (w : World) (h0 : 128 ≤ r) (h1 : r ≤ 2147483647) :
    Calls Tryz.prog 95 #[.string ⟨#[43, 35]⟩, .int .i32 r] w fun e w' => e = .returned (.int .i64 (-1)) ∧ Below w.heap.size w w' := by
  by_cases h : r = 65533
  · subst h; exact rune_err w
  · exact rune_high ⟨#[43, 35]⟩ rfl (fun _ => by show (35 : UInt8).toNat < 128; decide) r w h0 h1 h

/-- the iterator's place, whatever is made behind it -/
def ItAt (w : World) (s : ByteArray) (k : Nat) (wr : World) : Prop := Below w.heap.size w wr ∧ wr.heap[w.heap.size]? = some (.stringIter s k)
set_option maxHeartbeats 8000000 in
set_option maxRecDepth 1000000 in
theorem any_short (s : ByteArray) (w : World) (h8 : s.size ≤ 8) :
    Calls Tryz.prog 66 #[.string s, .string ⟨#[43, 35]⟩] w fun e w' => e = .returned (.int .i64 (Lib.indexAny s.data.toList [43, 35])) ∧ Below w.heap.size w w' := by
  have h8z : decide ((8 : Int) < (s.size : Int)) = false := decide_eq_false (by omega)
  go_enter Tryz.func66, Tryz.ntmps66
  go_wp2_with (go_at_call 96; refine (Tryz.strings_shouldUseASCIISet _ _).mono ?_; rintro e w' ⟨rfl, hw⟩; rw [hw, h8z])
  subst hw
  go_loopg [9, 10] s.size (fun g _ _ wx => ∃ i : Nat, i + g = s.size ∧ ItAt w' s i wx ∧ Lib.NoAny s.data.toList [43, 35] i)
  case atStart => exact ⟨0, by omega, ⟨(Below.refl _ _).alloc (Nat.le_refl _) _, World.iter_heap _ _ _⟩, Lib.NoAny.zero _ _⟩
  case round =>
    obtain ⟨i, hig, hit, hno⟩ := hrel
    have HN := hide hno
    have HB := hide hit.1
    have hk := hit.2
    clear hno hit
    cases gk with
    | zero =>
      obtain rfl : i = s.size := by omega
      have hnx := fun ty => Lib.run_next_end_at (P := Tryz.prog) wr w'.heap.size s s.size ty hk (by omega)
      go_wp2
      go_ret
      exact ⟨by rw [Lib.indexAny_none (by rw [← Lib.size_eq]; exact unhide HN)]; rfl, unhide HB⟩
    | succ g =>
      have hi : i < s.size := by omega
      have hsz : w'.heap.size < wr.heap.size := (Array.getElem?_eq_some_iff.1 hk).1
      rcases Nat.lt_or_ge (s[i]'hi).toNat 128 with hlow | hhigh
      · obtain ⟨x, hx⟩ : ∃ x : UInt8, s[i]'hi = x := ⟨_, rfl⟩
        have hxl : s.data.toList[i]? = some x := by rw [← hx]; exact Lib.data_getElem? s i hi
        have hnx := fun ty => Lib.run_next_ascii_at (P := Tryz.prog) wr w'.heap.size s i ty hk hi hlow
        rw [hx] at hnx hlow
        have Hx := hide hxl
        clear hxl hx
        have HB2 : Hid (ItAt w' s (i + 1) (wr.iterAt w'.heap.size s (i + 1))) := ⟨Lib.below_iterAt (unhide HB) (Nat.le_refl _) _ _, Lib.iterAt_heap _ _ _ _ _ hk⟩
        generalize wr.iterAt w'.heap.size s (i + 1) = w2 at hnx HB2
        have hcon := Lib.contains_iff_indexByte [43, 35] x
        have hback : ((x.toNat : Int)).toNat.toUInt8 = x := by simp
        cases hin : ([43, 35] : List UInt8).contains x
        · rw [hin] at hcon
          have hlt : ¬ ((0 : Int) ≤ Lib.indexByte [43, 35] x) := of_decide_eq_false hcon.symm
          clear hcon
          go_wp2_with (go_at_call 95; refine (Tryz.strings_IndexRune_ascii _ _ _ (by omega) (by omega)).mono ?_; rintro e w' ⟨rfl, hw⟩; rw [hw, hback, two_bytes])
          go_roundg g
          case measure => omega
          case rel => exact ⟨i + 1, by omega, unhide HB2, (unhide HN).succ (unhide Hx) hin⟩
        · rw [hin] at hcon
          have hge : (0 : Int) ≤ Lib.indexByte [43, 35] x := of_decide_eq_true hcon.symm
          clear hcon
          go_wp2_with (go_at_call 95; refine (Tryz.strings_IndexRune_ascii _ _ _ (by omega) (by omega)).mono ?_; rintro e w' ⟨rfl, hw⟩; rw [hw, hback, two_bytes])
          go_ret
          exact ⟨by rw [Lib.indexAny_hit (unhide HN) (unhide Hx) hin]; rfl, (unhide HB2).1⟩
      · obtain ⟨hs1, hs2⟩ := decode_span s i hi hhigh
        obtain ⟨hd1, hd2⟩ := decode_high s i hi hhigh
        have hd3 := decode_le s i
        have hnx := fun ty => Lib.run_next_any_at (P := Tryz.prog) wr w'.heap.size s i ty hk hi
        have HB2 : Hid (ItAt w' s (i + (Utf8.decode s i).2) (wr.iterAt w'.heap.size s (i + (Utf8.decode s i).2))) := ⟨Lib.below_iterAt (unhide HB) (Nat.le_refl _) _ _, Lib.iterAt_heap _ _ _ _ _ hk⟩
        have HS := hide hs2
        clear hs2 hhigh
        generalize (Utf8.decode s i).1 = r at hnx hd1 hd3
        generalize (Utf8.decode s i).2 = n at hnx hd2 hs1 HS HB2
        generalize wr.iterAt w'.heap.size s (i + n) = w2 at hnx HB2
        go_wp2_with (go_at_call 95; refine (rune_any _ _ (by omega) (by omega)).mono ?_; rintro e w3 ⟨rfl, hb3⟩)
        go_roundg (s.size - (i + n))
        case measure => omega
        case rel =>
          have h2 := unhide HB2
          have hlt2 : w'.heap.size < w2.heap.size := (Array.getElem?_eq_some_iff.1 h2.2).1
          exact ⟨i + n, by omega, ⟨h2.1.trans (hb3.mono (by omega)), by rw [hb3.block _ hlt2]; exact h2.2⟩, noany_span s i n (unhide HN) (unhide HS)⟩
theorem zero256 : ∀ w, (zeroValue 142).run Tryz.prog w = .ok (.agg (Array.replicate 256 (.bool false))) w := fun w => by kernel_rfl
set_option maxHeartbeats 1000000 in
theorem containsAny_any (s : ByteArray) (w : World) (hs : s.size < 4294967281) :
    Calls Tryz.prog 47 #[.string s, .string ⟨#[43, 35]⟩] w fun e w' => e = .returned (.bool (sg s.data.toList)) ∧ Below w.heap.size w w' := by
  have c : Calls Tryz.prog 66 #[.string s, .string ⟨#[43, 35]⟩] w fun e w' => e = .returned (.int .i64 (Lib.indexAny s.data.toList [43, 35])) ∧ Below w.heap.size w w' := by
    rcases Nat.lt_or_ge 8 s.size with h8 | h8
    · refine (Tryz.strings_IndexAny_long zero256 s ⟨#[43, 35]⟩ w (by decide) h8 hs (by decide) ?_).mono ?_
      · intro j b hb
        match j, hb with
        | 0, hb => simp at hb; subst hb; decide
        | 1, hb => simp at hb; subst hb; decide
      · rintro e w' ⟨rfl, rfl⟩
        exact ⟨rfl, ((Below.refl _ _).alloc (Nat.le_refl _) _).alloc (by simp) _⟩
    · exact any_short s w h8
  have hsg := sg_contains s.data.toList
  unfold Lib.containsAny at hsg
  have HC := hide c
  clear c
  generalize Lib.indexAny s.data.toList [43, 35] = q at HC hsg
  go_enter Tryz.func47, Tryz.ntmps47
  go_wp2_with (go_at_call 66; refine (unhide HC).mono ?_; rintro e w' ⟨rfl, hw⟩)
  go_ret
  exact ⟨by rw [← hsg]; rfl, hw⟩
end Go.Proofs.YtdjpllmgjmnolaaGreatDoor
