/- Proved here: a readable list of acts in memory; LogWeight and heavy end, and what passes heavy is put at times that may be. Helper contracts. -/
import Derived.Test.YtfgelagmjjjlgaaZNLw
namespace Go.Proofs.Ytfgelagmjjjlgaa.Nt
open Go.RowKit
set_option maxRecDepth 100000

/-- an act -/
structure Ac where
  d : Int
  q : Mq
  now : Int
  pick : Int
instance : Inhabited Ac := ⟨⟨0, default, 0, 0⟩⟩
def acs (a : Ac) : List Value := .int .i64 a.d :: (mcs a.q ++ [.int .i64 a.now, .int .i64 a.pick])
def AcIs (w : World) (b o : Nat) (a : Ac) : Prop := w.rangeAt b o (acs a) ∧ Rok w a.q ∧ Szs a.q.r
theorem AcIs.below {w w' : World} {b o : Nat} {a : Ac} (h : AcIs w b o a) (hb : Below w.heap.size w w') : AcIs w' b o a := ⟨range_below h.1 hb, h.2.1.below hb, h.2.2⟩
def AcsIn (w : World) (b off : Nat) (f : Nat → Ac) (len : Nat) : Prop := ∀ k, k < len → AcIs w b (off + k * 14) (f k)
set_option maxHeartbeats 2000000 in
theorem lw_core (b off cap : Nat) (l : List En) (len : Nat) (w : World) (hlen : l.length = len) (hl : EnAt w b off l) :
    Calls Try.prog 23 #[.slice (some ⟨b, off, none⟩) len cap] w fun e w' => (∃ z : Int, e = .returned (.int .i64 z)) ∧ w' = w := by
  have HL := hide hl
  have HLEN := hide hlen
  clear hl hlen
  go_enter Try.func23, Try.ntmps23
  go_wp2
  go_loopw [3, 4] (fun n i wr => ∃ (k : Nat) (z : Int), k ≤ len ∧ i = .int .i64 k ∧ n = .int .i64 z ∧ wr = w) (fun _ i _ => len - (intOf i).toNat)
  case atStart => exact ⟨0, _, Nat.zero_le _, rfl, rfl, rfl⟩
  case round =>
    obtain ⟨k, z, hk, rfl, rfl, rfl⟩ := hrel
    by_cases hlt : k < len
    · by_cases h2 : k < 2000
      · have c3 := ((unhide HL) k (by rw [unhide HLEN]; exact hlt)).2.2.2
        generalize (en0 l k).2.2.2 = s at c3
        go_wp2
        go_roundw
        case rel => exact ⟨k + 1, _, by omega, by go_num, rfl, by first | rfl | trivial⟩
        case measure => simp [intOf]; omega
      · have h2d : decide ((k : Int) < 2000) = false := decide_eq_false (by omega)
        have h2z : ¬ (k : Int) < 2000 := by omega
        go_wp2
        go_ret
        exact ⟨⟨_, rfl⟩, rfl⟩
    · go_wp2
      go_ret
      exact ⟨⟨_, rfl⟩, rfl⟩
theorem lw_nil (ao : Option Addr) (cap : Nat) (w : World) : Calls Try.prog 23 #[.slice ao 0 cap] w fun e w' => (∃ z : Int, e = .returned (.int .i64 z)) ∧ w' = w := by
  go_enter Try.func23, Try.ntmps23
  go_wp2
  refine wp_loop_rounds 1 ?_
  rw [rounds_succ]
  go_wp2
  go_ret
  exact ⟨⟨_, rfl⟩, rfl⟩
theorem lw_any (v : Value) (l : List En) (w : World) (h : Ens w v l) : Calls Try.prog 23 #[v] w fun e w' => (∃ z : Int, e = .returned (.int .i64 z)) ∧ w' = w := by
  obtain ⟨ao, cap, rfl, hc⟩ := h
  rcases hc with rfl | ⟨b, off, rfl, hc⟩
  · exact lw_nil ao cap w
  · exact lw_core b off cap l _ w rfl hc
/-- heavy's answer -/
def HvIs (f : Nat → Ac) (len : Nat) (e : Ending) : Prop := ∃ bb : Bool, e = .returned (.bool bb) ∧ (bb = false → ∀ k, k < len → k < 60 → 0 ≤ (f k).now ∧ (f k).now ≤ 1099511627776)
set_option maxHeartbeats 8000000 in
theorem heavy_core (b off cap len : Nat) (f : Nat → Ac) (w : World) (ha : AcsIn w b off f len) :
    Calls Try.prog 6 #[.slice (some ⟨b, off, none⟩) len cap] w fun e w' => HvIs f len e ∧ ∃ q, w' = w.drewN q := by
  have HA := hide ha
  clear ha
  go_enter Try.func6, Try.ntmps6
  go_wp2
  go_loopw [3, 4] (fun n i wr => ∃ (k q : Nat) (z : Int), k ≤ len ∧ k ≤ 60 ∧ i = .int .i64 k ∧ n = .int .i64 z ∧ wr = w.drewN q ∧ Hid (∀ j, j < k → 0 ≤ (f j).now ∧ (f j).now ≤ 1099511627776)) (fun _ i _ => len - (intOf i).toNat)
  case atStart => exact ⟨0, 0, _, Nat.zero_le _, Nat.zero_le _, rfl, rfl, rfl, fun j hj => absurd hj (Nat.not_lt_zero j)⟩
  case round =>
    obtain ⟨k, q, z, hk, hk60, rfl, rfl, rfl, HALL⟩ := hrel
    by_cases hlt : k < len
    · by_cases h2 : k < 60
      · obtain ⟨g1, g2, g3⟩ := (unhide HA) k hlt
        have e9 : w.cell? ⟨b, off + k * 14 + 9, none⟩ = some (f k).q.es.v := g1 9 _ rfl
        have e10 : w.cell? ⟨b, off + k * 14 + 10, none⟩ = some (.slice (f k).q.ms.a (f k).q.ms.n (f k).q.ms.c) := g1 10 _ rfl
        have e11 : w.cell? ⟨b, off + k * 14 + 11, none⟩ = some (.string (f k).q.r.data) := g1 11 _ rfl
        have e12 : w.cell? ⟨b, off + k * 14 + 12, none⟩ = some (.int .i64 (f k).now) := g1 12 _ rfl
        have HLW := hide (fun (W : World) (hW : Below w.heap.size w W) => lw_any (f k).q.es.v (f k).q.r.ents W (g2.1.below hW))
        generalize (f k).q.es.v = ve at e9 HLW
        generalize (f k).q.ms.a = a2 at e10
        generalize (f k).q.ms.n = n2 at e10
        generalize (f k).q.ms.c = c2 at e10
        generalize (f k).q.r.data = dt at e11
        generalize hnw : (f k).now = nw at e12
        have HNQ := hide hnw
        clear hnw g1 g2 g3
        have HC : Hid (∀ W : World, Below w.heap.size w W → W.cell? ⟨b, off + k * 14 + 9, none⟩ = some ve ∧ W.cell? ⟨b, off + k * 14 + 10, none⟩ = some (.slice a2 n2 c2) ∧ W.cell? ⟨b, off + k * 14 + 11, none⟩ = some (.string dt)) := fun W hW => ⟨(hW.cell (cell_lt e9)).trans e9, (hW.cell (cell_lt e10)).trans e10, (hW.cell (cell_lt e11)).trans e11⟩
        have HBq : Hid (Below w.heap.size w (w.drewN q).drew) := below_drewN (below_drewN (Below.refl _ _) q) 1
        have e12' : ((w.drewN q).drew).cell? ⟨b, off + k * 14 + 12, none⟩ = some (.int .i64 nw) := e12
        have E12 := hide e12'
        clear e9 e10 e11 e12 e12'
        go_upto_region 5 with fail
        refine wp_region_noPanic ?_
        refine wp_region_held_drew (S := fun W => W.cell? ⟨b, off + k * 14 + 9, none⟩ = some ve ∧ W.cell? ⟨b, off + k * 14 + 10, none⟩ = some (.slice a2 n2 c2) ∧ W.cell? ⟨b, off + k * 14 + 11, none⟩ = some (.string dt)) (by kernel_rfl) ((unhide HC) _ (unhide HBq)) (fun hHeld => ?_)
        refine rtk 0 (h := ?_)
        refine rtk 1 (h := ?_)
        refine rtk 2 (h := ?_)
        refine rtk 3 (h := ?_)
        refine rtk 4 (h := ?_)
        refine rtk 5 (h := ?_)
        refine rtk 6 (h := ?_)
        refine rtk 7 (h := ?_)
        refine rtk 8 (h := ?_)
        refine rtk 9 (h := ?_)
        refine rtk 10 (h := ?_)
        refine rtk 11 (h := ?_)
        refine rtk 12 (h := ?_)
        refine rtk 13 (h := ?_)
        refine rtk 14 (h := ?_)
        refine rtk 17 (h := ?_)
        refine rtk 18 (h := ?_)
        refine rtk 19 (h := ?_)
        refine rtk 20 (h := ?_)
        refine rtk 21 (h := ?_)
        refine rtk 22 (h := ?_)
        refine rtk 23 (h := ?_)
        refine rcl 15 (h := fun K hK => ?_)
        go_simp
        refine ((unhide HLW) _ (unhide HBq)).mono ?_
        rintro e w2 ⟨⟨z2, rfl⟩, hw2⟩
        obtain rfl := hw2.symm
        clear hw2
        go_simp
        refine hK.out _ _ ((unhide HC) _ (unhide HBq)) (fun hHeld => ?_)
        clear hK K
        refine rtk 16 (h := ?_)
        refine rtk 24 (h := ?_)
        refine rtk 25 (h := ?_)
        refine wpAnyH_done (by kernel_rfl) ?_ _
        refine NoPanic.normal ?_
        clear HC HLW hHeld
        have e12 : (w.drewN (q + 1)).cell? ⟨b, off + k * 14 + 12, none⟩ = some (.int .i64 nw) := unhide E12
        by_cases h0 : nw < 0
        · have h0d : decide (nw < 0) = true := decide_eq_true h0
          go_wp2
          go_ret
          exact ⟨⟨true, rfl, fun h => by cases h⟩, q + 1, rfl⟩
        · have h0d : decide (nw < 0) = false := decide_eq_false h0
          by_cases h1 : nw > 1099511627776
          · have h1d : decide (nw > 1099511627776) = true := decide_eq_true h1
            go_wp2
            go_ret
            exact ⟨⟨true, rfl, fun h => by cases h⟩, q + 1, rfl⟩
          · have h1d : decide (nw > 1099511627776) = false := decide_eq_false h1
            have HALL2 : Hid (∀ j, j < k + 1 → 0 ≤ (f j).now ∧ (f j).now ≤ 1099511627776) := fun j hj => by
              rcases Nat.lt_succ_iff_lt_or_eq.1 hj with h | h
              · exact (unhide HALL) j h
              · rw [h, unhide HNQ]; omega
            go_wp2
            go_roundw
            case rel => exact ⟨k + 1, q + 1, _, by omega, by omega, by go_num, rfl, rfl, HALL2⟩
            case measure => simp [intOf]; omega
      · have h2d : decide ((k : Int) < 60) = false := decide_eq_false (by omega)
        have h2z : ¬ (k : Int) < 60 := by omega
        go_wp2
        go_ret
        exact ⟨⟨_, rfl, fun _ j hj hj2 => (unhide HALL) j (by omega)⟩, q, rfl⟩
    · go_wp2
      go_ret
      exact ⟨⟨_, rfl, fun _ j hj hj2 => (unhide HALL) j (by omega)⟩, q, rfl⟩
theorem heavy_nil (ao : Option Addr) (cap : Nat) (w : World) : Calls Try.prog 6 #[.slice ao 0 cap] w fun e w' => HvIs default 0 e ∧ w' = w := by
  go_enter Try.func6, Try.ntmps6
  go_wp2
  refine wp_loop_rounds 1 ?_
  rw [rounds_succ]
  go_wp2
  go_ret
  exact ⟨⟨_, rfl, fun _ k hk => by omega⟩, rfl⟩
/-- acts that lie where the slice says, if there are any -/
def AcsAt (w : World) (ao : Option Addr) (f : Nat → Ac) (len : Nat) : Prop := len = 0 ∨ ∃ b off, ao = some ⟨b, off, none⟩ ∧ AcsIn w b off f len
theorem heavy_any (ao : Option Addr) (cap len : Nat) (f : Nat → Ac) (w : World) (ha : AcsAt w ao f len) :
    Calls Try.prog 6 #[.slice ao len cap] w fun e w' => HvIs f len e ∧ ∃ q, w' = w.drewN q := by
  rcases ha with rfl | ⟨b, off, rfl, ha⟩
  · refine (heavy_nil ao cap w).mono ?_
    rintro e w' ⟨⟨bb, h1, _⟩, rfl⟩
    exact ⟨⟨bb, h1, fun _ k hk => by omega⟩, 0, rfl⟩
  · exact heavy_core b off cap len f w ha
theorem AcsAt.get {w w' : World} {ao : Option Addr} {f : Nat → Ac} {len : Nat} (h : AcsAt w ao f len) (hb : Below w.heap.size w w') (k : Nat) (hk : k < len) : ∃ b off, ao = some ⟨b, off, none⟩ ∧ AcIs w' b (off + k * 14) (f k) := by
  rcases h with rfl | ⟨b, off, e, ha⟩
  · omega
  · exact ⟨b, off, e, (ha k hk).below hb⟩
end Go.Proofs.Ytfgelagmjjjlgaa.Nt
