/- Proved here: the walk of dovecotelaw13.RandomSpread: at any asks it returns true. -/
import Derived.Test.YthnhbocifbhoaaaZRLaw
import Derived.Deep.Cut
import Derived.Deep.CutBlock
namespace Go.Proofs.Ythnhbocifbhoaaa.R
open Go.RowKit
set_option maxRecDepth 100000

/-- eight numbers in a block of their own -/
def TAt (w : World) (b : Nat) (f : Nat → Nat) : Prop := ∀ j, j < 8 → w.cell? ⟨b, j, none⟩ = some (.int .i64 ((f j : Nat) : Int)) ∧ w.frozen? ⟨b, j, none⟩ = false
def tcs (f : Nat → Nat) : List Value := (List.range 8).map fun j => .int .i64 ((f j : Nat) : Int)
theorem tcs_get (f : Nat → Nat) (j : Nat) (hj : j < 8) : (tcs f)[j]? = some (.int .i64 ((f j : Nat) : Int)) := by
  unfold tcs
  rw [List.getElem?_map, List.getElem?_range hj]
  rfl
theorem TAt.below {w w' : World} {b : Nat} {f : Nat → Nat} (h : TAt w b f) (hb : Below w.heap.size w w') : TAt w' b f := fun j hj =>
  ⟨(hb.cell (cell_lt (h j hj).1)).trans (h j hj).1, (hb.frozen (cell_lt (h j hj).1)).trans (h j hj).2⟩
theorem TAt.set {w : World} {b : Nat} {f g : Nat → Nat} (h : TAt w b f) (i : Nat) (hq : ∀ j, j < 8 → j ≠ i → g j = f j) : TAt (w.setCell ⟨b, i, none⟩ (.int .i64 ((g i : Nat) : Int))) b g := fun j hj => by
  refine ⟨?_, by simpa using (h j hj).2⟩
  by_cases hji : j = i
  · subst hji
    exact World.cell?_setCell_same _ _ _ (h j hj).1
  · rw [World.cell?_setCell_other _ _ _ _ (by intro e; injection e with _ e; exact hji e.symm), hq j hj hji]
    exact (h j hj).1
theorem TAt.new (w : World) (f : Nat → Nat) : TAt (w.alloc (.cells (tcs f).toArray 31)) w.heap.size f := fun j hj => by
  refine ⟨?_, by simp⟩
  have k := heap_alloc_new w (.cells (tcs f).toArray 31)
  unfold World.cell?
  dsimp only
  rw [k]
  simpa using tcs_get f j hj
theorem cnt_step (s j r : Nat) (hr : nxs (j + 1) s % 8 = r) : cnt s r (j + 1) = cnt s r j + 1 := by
  show cnt s r j + (if nxs (j + 1) s % 8 = r then 1 else 0) = _
  rw [if_pos hr]
theorem cnt_stay (s j r i : Nat) (hr : nxs (j + 1) s % 8 = r) (h : i ≠ r) : cnt s i (j + 1) = cnt s i j := by
  show cnt s i j + (if nxs (j + 1) s % 8 = i then 1 else 0) = _
  rw [if_neg (fun e => h (e.symm.trans hr))]
  rfl
set_option maxHeartbeats 8000000 in
theorem spread13_walk (b off len cap : Nat) (aks : Nat → Ak) (w : World) (hlen : len ≤ maxLen) (hk : AsksIn w b off aks len) : Calls Try.prog 5 #[.slice (some ⟨b, off, none⟩) len cap] w fun e w' => e = .returned (.bool true) ∧ Below w.heap.size w w' := by
  have HA := hide hk
  clear hk
  go_enter Try.func5, Try.ntmps5
  go_wp2
  go_loopw [3] (fun i wr => ∃ (k : Nat), k ≤ len ∧ k ≤ 4 ∧ i = .int .i64 k ∧ Hid (Below w.heap.size w wr)) (fun i _ => 4 - (intOf i).toNat)
  case atStart => exact ⟨0, Nat.zero_le _, by omega, rfl, Below.refl _ _⟩
  case round =>
    obtain ⟨k, hk, hk6, rfl, HQ⟩ := hrel
    obtain ⟨wo, hwo⟩ : ∃ wo, wo = wr := ⟨wr, rfl⟩
    subst hwo
    by_cases hlt : k < len ∧ k < 4
    · obtain ⟨hlt, hlt6⟩ := hlt
      have hi1 : (k : Int) < len := by omega
      have hi2 : (k : Int) < 4 := by omega
      obtain ⟨c0, _, hs, _, _⟩ := (unhide HA) k hlt
      have HC : Hid (∀ W, Below w.heap.size w W → W.cell? ⟨b, off + k * 2, none⟩ = some (.int .u64 ((aks k).s : Int))) := fun W hW => (hW.cell (cell_lt c0)).trans c0
      have c1 := (unhide HC) wo (unhide HQ)
      clear c0
      generalize (aks k).s = s at hs HC c1
      have HS := hide hs
      clear HA hs
      have H0 : Hid (TAt (wo.alloc (.cells (tcs (fun r => cnt s r 0)).toArray 31)) wo.heap.size (fun r => cnt s r 0)) := TAt.new wo (fun r => cnt s r 0)
      have HB0 : Hid (Below w.heap.size w (wo.alloc (.cells (tcs (fun r => cnt s r 0)).toArray 31))) := (unhide HQ).alloc (unhide HQ).size _
      have HSZ := hide (unhide HQ).size
      go_upto_region 6 with fail
      change Code.wp _ _ _ _ (wo.alloc (.cells (tcs (fun r => cnt s r 0)).toArray 31))
      generalize wo.alloc (.cells (tcs (fun r => cnt s r 0)).toArray 31) = w1 at H0 HB0 ⊢
      generalize wo.heap.size = B at H0 HSZ ⊢
      clear c1 HQ
      go_wp2
      go_loopw [4, 6] (fun s' i wr => ∃ (x j : Nat), s' = .int .u64 (x : Int) ∧ i = .int .i64 j ∧ j ≤ 400 ∧ Hid (x = nxs j s) ∧ Hid (TAt wr B (fun r => cnt s r j)) ∧ Hid (Below w.heap.size w wr)) (fun _ i _ => 400 - (intOf i).toNat)
      case atStart => exact ⟨s, 0, rfl, rfl, by omega, rfl, H0, HB0⟩
      case round =>
        obtain ⟨x, j, rfl, rfl, hj, HX, HT, HQ2⟩ := hrel
        clear H0 HB0
        by_cases hj2 : j < 400
        · have hxl : x < 2 ^ 64 := by rw [unhide HX]; exact nxs_lt (unhide HS) j
          have hnx : nx x = nxs (j + 1) s := by rw [unhide HX]; rfl
          obtain ⟨r, hr, hr8⟩ : ∃ r, nxs (j + 1) s % 8 = r ∧ r < 8 := ⟨_, rfl, Nat.mod_lt _ (by decide)⟩
          have hbl : bl (nx x) 8 = (r : Int) := by rw [bl_pos (by decide), hnx, ← hr]; rfl
          have HB : Hid (∀ W, Calls Try.prog 6 #[.int .u64 x, .int .i64 8] W fun e w' => e = .returned (.tuple #[.int .u64 (nx x : Nat), .int .i64 (r : Int)]) ∧ ∃ m, w' = W.drewN m) := fun W => hbl ▸ below_any x 8 W hxl (by decide)
          have HX2 := hide hnx
          have HC1 : Hid (∀ W, TAt W B (fun r => cnt s r j) → TAt (W.setCell ⟨B, r, none⟩ (.int .i64 ((cnt s r j + 1 : Nat) : Int))) B (fun r => cnt s r (j + 1))) := fun W hW => by
            have := hW.set (g := fun r => cnt s r (j + 1)) r (fun i _ hi => cnt_stay s j r i hr hi)
            rw [← cnt_step s j r hr]
            exact this
          have hcl := cnt_le s r j
          generalize nx x = t at HB HX2
          clear hnx hbl hxl hr HX
          go_wp2_with fail
          refine ((unhide HB) _).mono ?_
          rintro e w2 ⟨rfl, hw2⟩
          have hb2 : Below wr.heap.size wr w2 := by obtain ⟨m, rfl⟩ := hw2; exact below_drewN (Below.refl _ _) m
          have HT2 := hide ((unhide HT).below hb2)
          have HQ3 := hide ((unhide HQ2).trans (hb2.mono (unhide HQ2).size))
          obtain ⟨d0, d1⟩ := (unhide HT2) r hr8
          have HT3 := hide ((unhide HC1) _ (unhide HT2))
          have HQ4 : Hid (Below w.heap.size w (w2.setCell ⟨B, r, none⟩ (.int .i64 ((cnt s r j + 1 : Nat) : Int)))) := (unhide HQ3).setCell (p := ⟨B, r, none⟩) (unhide HSZ) _
          clear hw2 hb2 HT HT2 HC1 HB HQ2 HQ3
          dsimp only at d0
          generalize cnt s r j = c at d0 HT3 HQ4 hcl
          go_wp2
          go_roundw
          case rel => exact ⟨t, j + 1, rfl, by go_num, by omega, HX2, by simpa using HT3, by simpa using HQ4⟩
          case measure => simp [intOf] <;> omega
        · obtain rfl : j = 400 := by omega
          have HT2 : Hid (∀ r, r < 8 → ∃ c : Nat, c ≤ 399 ∧ wr.cell? ⟨B, r, none⟩ = some (.int .i64 (c : Int))) := fun r hr => ⟨cnt s r 400, cnt_400 (unhide HS) r, ((unhide HT) r hr).1⟩
          obtain ⟨wi, hwi⟩ : ∃ wi, wi = wr := ⟨wr, rfl⟩
          subst hwi
          have c1 := (unhide HC) wi (unhide HQ2)
          have h4 : ¬ ((400 : Int) < 400) := by omega
          clear HT HX
          go_wp2
          go_loop [9] (fun i => ∃ j : Nat, i = .int .i64 j ∧ j ≤ 8) (fun i => 8 - (intOf i).toNat)
          case atStart => exact ⟨0, rfl, by omega⟩
          case round =>
            obtain ⟨j, rfl, hj8⟩ := hrel
            by_cases hj3 : j < 8
            · obtain ⟨c, hc, hcc⟩ := (unhide HT2) j hj3
              go_wp2
              go_roundw
              case rel => exact ⟨j + 1, by go_num, by omega⟩
              case measure => simp [intOf] <;> omega
            · obtain rfl : j = 8 := by omega
              clear HT2
              by_cases s0 : s = 0
              · subst s0
                go_wp2
                go_roundw
                case rel => exact ⟨k + 1, by omega, by omega, by go_num, HQ2⟩
                case measure => simp [intOf] <;> omega
              by_cases s1 : s = 1
              · subst s1
                go_wp2
                go_roundw
                case rel => exact ⟨k + 1, by omega, by omega, by go_num, HQ2⟩
                case measure => simp [intOf] <;> omega
              have b0 : ((s : Int) != 0) = true := bne_iff_ne.2 (by omega)
              have b1 : ((s : Int) != 1) = true := bne_iff_ne.2 (by omega)
              have hne : (((nx s : Nat) : Int) == ((nx 1 : Nat) : Int)) = false := beq_false_of_ne (fun e => s1 (nx_inj (unhide HS) (by decide) s0 (by decide) (by omega)))
              have HN : Hid (∀ W, Calls Try.prog 8 #[.int .u64 s] W fun e w' => e = .returned (.int .u64 (nx s : Nat)) ∧ w' = W) := fun W => next_any s W (unhide HS)
              have HN1 : Hid (∀ W, Calls Try.prog 8 #[.int .u64 1] W fun e w' => e = .returned (.int .u64 (nx 1 : Nat)) ∧ w' = W) := fun W => next_any 1 W (by decide)
              generalize nx s = t at hne HN
              generalize nx 1 = t1 at hne HN1
              go_wp2_with fail
              refine ((unhide HN) _).mono ?_
              rintro e w2 ⟨rfl, hw2⟩
              obtain rfl := hw2.symm
              go_wp2_with fail
              refine ((unhide HN1) _).mono ?_
              rintro e w2 ⟨rfl, hw2⟩
              obtain rfl := hw2.symm
              go_wp2
              go_roundw
              case rel => exact ⟨k + 1, by omega, by omega, by go_num, HQ2⟩
              case measure => simp [intOf] <;> omega
    · by_cases h1 : k < len
      · obtain rfl : k = 4 := by omega
        go_wp2_with (go_at_call 10; refine (wakes13 _).mono ?_; rintro e w2 ⟨rfl, hw2⟩; obtain rfl := hw2.symm)
        go_ret
        exact ⟨rfl, unhide HQ⟩
      · obtain rfl : k = len := by omega
        go_wp2_with (go_at_call 10; refine (wakes13 _).mono ?_; rintro e w2 ⟨rfl, hw2⟩; obtain rfl := hw2.symm)
        go_ret
        exact ⟨rfl, unhide HQ⟩
theorem spread13_walk0 (ao : Option Addr) (cap : Nat) (w : World) : Calls Try.prog 5 #[.slice ao 0 cap] w fun e w' => e = .returned (.bool true) ∧ Below w.heap.size w w' := by
  go_enter Try.func5, Try.ntmps5
  go_wp2
  go_loop [3] (fun i => i = .int .i64 0) (fun _ => 0)
  case atStart => rfl
  case round =>
    subst hrel
    go_wp2_with (go_at_call 10; refine (wakes13 _).mono ?_; rintro e w2 ⟨rfl, hw2⟩; obtain rfl := hw2.symm)
    go_ret
    exact ⟨rfl, Below.refl _ _⟩
end Go.Proofs.Ythnhbocifbhoaaa.R
