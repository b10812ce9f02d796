/- Proved here: what the statements of layer 7 share: same, the page's Hits, Within, num and heavy. Helper contracts. -/
import Derived.Test.YtdjpllmgjmnolaaGreatDoorZYLw
namespace Go.Proofs.YtdjpllmgjmnolaaGreatDoor.Y
open Go.RowKit Go.Maps
set_option maxRecDepth 100000

theorem undH : Tryz.prog.underlying 37 = some (.struct (Tryz.prog.fieldsOf 37)) := by kernel_rfl
theorem eqgH : Tryz.prog.eqGuardType Tryz.prog.depth 37 = false := by kernel_rfl
theorem stoodH : Tryz.prog.stoodInHeld 37 = false := by kernel_rfl
theorem neqH (u : Rw) (w : World) : (binOp .neq 37 (rv u) (rv u)).run Tryz.prog w = .ok (.bool false) w := by
  rw [run_neq_struct, run_equalIn_struct w 9999 37 _ _ undH stoodH]
  rw [show Tryz.prog.fieldsOf 37 = _ from rfl]
  simp [Program.fieldsOf, Tryz.underlying37, Op.eqFields, go_sem]
def wth (i : Int) (n : Nat) : Nat := (i % 18446744073709551616).toNat % n
theorem within_any (i : Int) (n : Nat) (w : World) (hn : 1 ≤ n) (hn2 : n ≤ 9223372036854775807) : Calls Tryz.prog 8 #[.int .i64 i, .int .i64 n] w fun e w' => e = .returned (.int .i64 ((wth i n : Nat) : Int)) ∧ w' = w := by
  have h0 : 0 ≤ i % 18446744073709551616 := Int.emod_nonneg _ (by decide)
  have h1 : i % 18446744073709551616 < 18446744073709551616 := Int.emod_lt_of_pos _ (by decide)
  have hw : wrap64 ((IntKind.u64.wrap i).tmod (n : Int)) = ((wth i n : Nat) : Int) := by
    have hlt : wth i n < n := Nat.mod_lt _ (by omega)
    rw [IntKind.wrap_u64, Int.tmod_eq_emod_of_nonneg h0]
    have e : (i % 18446744073709551616) % (n : Int) = ((wth i n : Nat) : Int) := by
      unfold wth
      rw [Int.natCast_emod, Int.toNat_of_nonneg h0]
    rw [e]
    unfold wrap64
    omega
  have hnz : ¬ (n : Int) = 0 := by omega
  generalize wth i n = z at hw
  go_enter Tryz.func8, Tryz.ntmps8
  go_wp2
  go_ret
  exact ⟨by first | rfl | (rw [← hw]; rfl), rfl⟩
theorem num7 (v : Value) (n : Int) (w : World) (hg : Laid w) (hv : ErrX w v n) : Calls Tryz.prog 13 #[v] w fun e w' => e = .returned (.int .i64 n) ∧ Below w.heap.size w w' := by
  go_enter Tryz.func13, Tryz.ntmps13
  go_wp2_with (go_at_call 34; refine (numx _ n _ hg hv).mono ?_; rintro e w' ⟨rfl, hb⟩)
  go_ret
  exact ⟨rfl, hb⟩
theorem hits_any (f s : ByteArray) (w : World) (hf : f.size ≤ 70000) (hs : s.size ≤ 70000) (h0 : 0 < s.size) : Calls Tryz.prog 11 #[.string f, .string s] w fun e w' => e = .returned (.bool (hits f.data.toList s.data.toList)) ∧ Below w.heap.size w w' := by
  cases h : flt f.data.toList with
  | none =>
    have HF := hide (rfilter_no f w hf h)
    have HR : Hid (hits f.data.toList s.data.toList = false) := by show _ = _; unfold hits; rw [h]
    generalize hits f.data.toList s.data.toList = r at HR ⊢
    clear h hf hs h0
    go_enter Tryz.func11, Tryz.ntmps11
    go_wp2_with fail
    refine (unhide HF).mono ?_
    rintro e w1 ⟨g, p, rfl, hb1⟩
    go_wp2
    go_ret
    exact ⟨by rw [unhide HR]; rfl, hb1⟩
  | some x =>
    obtain ⟨g, p⟩ := x
    have HF := hide (rfilter_yes f g p w hf h)
    have hpl : (bt p).size ≤ 70000 := by
      rw [bt_size]
      have hl := prt_len f.data.toList
      rw [size_len] at hl
      unfold flt at h
      split at h
      · split at h
        · simp only [Option.some.injEq, Prod.mk.injEq] at h
          rw [← h.2]; omega
        · cases h
      · cases h
    have HR : Hid (hits f.data.toList s.data.toList = mtc (bt p).data.toList s.data.toList) := by show _ = _; unfold hits; rw [h]; rfl
    have HM := hide (fun W => rmatch_any (bt p) s W hpl hs h0)
    generalize hits f.data.toList s.data.toList = r at HR ⊢
    generalize mtc (bt p).data.toList s.data.toList = r' at HR HM
    generalize bt p = pp at HF HM
    clear h hf hs h0 hpl
    go_enter Tryz.func11, Tryz.ntmps11
    go_wp2_with fail
    refine (unhide HF).mono ?_
    rintro e w1 ⟨rfl, hb1⟩
    have HB1 := hide hb1
    clear hb1 HF
    go_wp2_with fail
    refine ((unhide HM) w1).mono ?_
    rintro e w2 ⟨rfl, hb2⟩
    have HB2 := hide ((unhide HB1).trans (hb2.mono (unhide HB1).size))
    clear hb2 HM HB1
    go_wp2
    go_ret
    exact ⟨by rw [unhide HR]; rfl, unhide HB2⟩
set_option maxHeartbeats 2000000 in
theorem same_cons (g off g' off' n cap cap' : Nat) (L : List Rw) (w : World) (hmx : n ≤ 1000000) (h1 : ∀ k, k < n → RwAt w g (off + k * 6) (L.getD k default)) (h2 : ∀ k, k < n → RwAt w g' (off' + k * 6) (L.getD k default)) :
    Calls Tryz.prog 14 #[.slice (some ⟨g, off, none⟩) n cap, .slice (some ⟨g', off', none⟩) n cap'] w fun e w' => e = .returned (.bool true) ∧ Below w.heap.size w w' := by
  have H1 : Hid (∀ W k, k < n → Below w.heap.size w W → RwAt W g (off + k * 6) (L.getD k default)) := fun W k hk hW => (h1 k hk).bel hW
  have H2 : Hid (∀ W k, k < n → Below w.heap.size w W → RwAt W g' (off' + k * 6) (L.getD k default)) := fun W k hk hW => (h2 k hk).bel hW
  clear h1 h2
  have qg := eqgH
  go_enter Tryz.func14, Tryz.ntmps14
  go_wp2
  go_loopw [5] (fun i wr => ∃ k : Nat, k ≤ n ∧ i = .int .i64 k ∧ Hid (Below w.heap.size w wr)) (fun i _ => n - (intOf i).toNat)
  case atStart => exact ⟨0, Nat.zero_le _, rfl, Below.refl _ _⟩
  case round =>
    obtain ⟨k, hk, rfl, HB⟩ := hrel
    by_cases hlt : k < n
    · have HA := hide ((unhide H1) wr k hlt (unhide HB))
      have HC := hide ((unhide H2) wr k hlt (unhide HB))
      generalize L.getD k default = u at HA HC
      have qn := fun W => neqH u W
      have HB2 : Hid (Below w.heap.size w wr.drew) := below_drewN (unhide HB) 1
      go_wp2_with fail
      refine wp_region_noPanic ?_
      refine wp_region_held_drew (S := fun W => RwAt W g (off + k * 6) u ∧ RwAt W g' (off' + k * 6) u) (by kernel_rfl) ⟨unhide HA, unhide HC⟩ (fun hHeld => ?_)
      unfold RwAt at hHeld ⊢
      refine rtk 0 (h := ?_)
      refine rtk 1 (h := ?_)
      refine rtk 2 (h := ?_)
      refine rtk 3 (h := ?_)
      refine rtk 4 (h := ?_)
      refine rtk 5 (h := ?_)
      refine rtk 6 (h := ?_)
      refine rtk 7 (h := ?_)
      refine rtk 8 (h := ?_)
      refine wpAnyH_done (by kernel_rfl) ?_ _
      refine NoPanic.normal ?_
      clear HA HC
      go_wp2
      go_roundw
      case rel => exact ⟨k + 1, by omega, by go_num, HB2⟩
      case measure => simp [intOf]; omega
    · obtain rfl : k = n := by omega
      go_wp2
      go_ret
      exact ⟨rfl, unhide HB⟩
theorem same_nil (ao ao' : Option Addr) (cap cap' : Nat) (w : World) : Calls Tryz.prog 14 #[.slice ao 0 cap, .slice ao' 0 cap'] w fun e w' => e = .returned (.bool true) ∧ Below w.heap.size w w' := by
  go_enter Tryz.func14, Tryz.ntmps14
  go_wp2
  refine wp_loop_rounds 1 ?_
  rw [rounds_succ]
  go_wp2
  go_ret
  exact ⟨rfl, Below.refl _ _⟩
theorem same_any (v v' : Value) (L : List Rw) (w : World) (hmx : L.length ≤ 1000000) (h : RowsIn w v L) (h' : RowsIn w v' L) : Calls Tryz.prog 14 #[v, v'] w fun e w' => e = .returned (.bool true) ∧ Below w.heap.size w w' := by
  obtain ⟨ao, cap, rfl, _, h3⟩ := h
  obtain ⟨ao', cap', rfl, _, h3'⟩ := h'
  rcases h3 with ⟨_, rfl, _⟩ | ⟨g, off, rfl, hc⟩
  · exact same_nil ao ao' cap cap' w
  · rcases h3' with ⟨_, rfl, _⟩ | ⟨g', off', rfl, hc'⟩
    · exact same_nil _ ao' cap cap' w
    · exact same_cons g off g' off' L.length cap cap' L w hmx hc hc'
/-! what is asked -/
structure Ac where
  d : Int
  c : ByteArray
  s : Sb
  nm : ByteArray
instance : Inhabited Ac := ⟨⟨0, ⟨#[]⟩, default, ⟨#[]⟩⟩⟩
def AcAt (w : World) (b off : Nat) (a : Ac) : Prop := w.cell? ⟨b, off, none⟩ = some (.int .i64 a.d) ∧ w.cell? ⟨b, off + 1, none⟩ = some (.string a.c) ∧ w.cell? ⟨b, off + 2, none⟩ = some (.string a.s.f) ∧ w.cell? ⟨b, off + 3, none⟩ = some (.int .i64 a.s.q) ∧ w.cell? ⟨b, off + 4, none⟩ = some (.bool a.s.nl) ∧ w.cell? ⟨b, off + 5, none⟩ = some (.bool a.s.ap) ∧ w.cell? ⟨b, off + 6, none⟩ = some (.int .i64 a.s.h) ∧ w.cell? ⟨b, off + 7, none⟩ = some (.string a.nm)
theorem AcAt.bel {w w' : World} {B b off : Nat} {a : Ac} (h : AcAt w b off a) (hb : Below B w w') (hB : b < B) : AcAt w' b off a := by
  have k : ∀ j v, w.cell? ⟨b, j, none⟩ = some v → w'.cell? ⟨b, j, none⟩ = some v := fun j v hv => by rw [hb.cell (p := ⟨b, j, none⟩) hB]; exact hv
  exact ⟨k _ _ h.1, k _ _ h.2.1, k _ _ h.2.2.1, k _ _ h.2.2.2.1, k _ _ h.2.2.2.2.1, k _ _ h.2.2.2.2.2.1, k _ _ h.2.2.2.2.2.2.1, k _ _ h.2.2.2.2.2.2.2⟩
/-- how much an act weighs -/
def acw (a : Ac) : Nat := a.c.size + a.s.f.size + a.nm.size
/-- all that matters of them is light -/
def Light (az : Nat → Ac) (n : Nat) : Prop := ∀ k, k < n → k < 60 → acw (az k) ≤ 20000
def sumW (az : Nat → Ac) : Nat → Nat
  | 0 => 0
  | k + 1 => sumW az k + acw (az k)
theorem sumW_le (az : Nat → Ac) (k : Nat) : ∀ n, k < n → acw (az k) ≤ sumW az n
  | 0, h => absurd h (Nat.not_lt_zero _)
  | n + 1, h => by
    rcases Nat.lt_succ_iff_lt_or_eq.1 h with h | h
    · have := sumW_le az k n h; simp only [sumW]; omega
    · rw [h]; simp only [sumW]; omega
theorem sumW_big (az : Nat → Ac) (n : Nat) (h : ∀ k, k < n → (az k).c.size ≤ 140737488351232 ∧ (az k).s.f.size ≤ 140737488351232 ∧ (az k).nm.size ≤ 140737488351232) : ∀ m, m ≤ n → sumW az m ≤ m * 422212465053696
  | 0, _ => Nat.zero_le _
  | m + 1, hm => by
    have := sumW_big az n h m (by omega)
    obtain ⟨h1, h2, h3⟩ := h m (by omega)
    simp only [sumW, acw]
    omega
def HvEnd (w : World) (az : Nat → Ac) (n : Nat) (e : Ending) (w' : World) : Prop := ∃ r, e = .returned (.bool r) ∧ (r = false → Light az n) ∧ Below w.heap.size w w'
end Go.Proofs.YtdjpllmgjmnolaaGreatDoor.Y
