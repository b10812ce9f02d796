/- Proved here: rpc.write: the bytes of a message, in memory of their own. Helper contract. -/
import Derived.Test.YtmmhdhpocjnlbaaGreatDoorZJWr
namespace Go.Proofs.YtmmhdhpocjnlbaaGreatDoor.Jr
open Go.RowKit Nt Et Qu
set_option maxRecDepth 100000

def RowB (w : World) (B : Nat) (v : Value) (xs : List Int) : Prop := w.ownsRow B 5 1 v xs.length (xs.map (Value.int .u8))
/-- what write tells -/
def WrR (m : Rp) (e : Ending) (w w' : World) : Prop := ∃ v, e = .returned v ∧ Hid (RowB w' w.heap.size v (wb m)) ∧ Hid (Below w.heap.size w w')
theorem es_cells {w : World} {ao : Option Addr} {n cap : Nat} {l : List En} (h : Es w ao n cap l) {k : Nat} (hk : k < n) : ∃ b off, ao = some ⟨b, off, none⟩ ∧ w.cell? ⟨b, off + k * 4, none⟩ = some (.int .i64 (en0 l k).1) ∧ w.cell? ⟨b, off + k * 4 + 1, none⟩ = some (.int .i64 (en0 l k).2.1) ∧ w.cell? ⟨b, off + k * 4 + 2, none⟩ = some (.int .i64 (en0 l k).2.2.1) ∧ w.cell? ⟨b, off + k * 4 + 3, none⟩ = some (.string (en0 l k).2.2.2) := by
  obtain ⟨h1, h2, h3, h4, h5⟩ := h
  rcases h5 with h5 | ⟨b, off, e, hc⟩
  · omega
  · exact ⟨b, off, e, hc k (by omega)⟩
theorem flat_len {α : Type} (l : List α) (f : α → List Int) (c : Nat) (h : ∀ a ∈ l, (f a).length ≤ c) : (l.flatMap f).length ≤ c * l.length := by
  induction l with
  | nil => simp
  | cons a r ih =>
    have h1 := h a (by simp)
    have h2 := ih (fun b hb => h b (by simp [hb]))
    rw [List.flatMap_cons, List.length_append, List.length_cons, Nat.mul_succ]
    omega
theorem efit_we {ix : Int} {l : List En} (h : EFit ix l) : ∀ e ∈ l, (we e).length ≤ 65543 := by
  intro e he
  obtain ⟨j, hj, rfl⟩ := List.mem_iff_getElem.1 he
  have h3 := (h j hj).2.2.2.2
  rw [en0_get l j hj] at h3
  simp only [Int.reducePow] at h3
  exact we_len (by omega)
theorem take_sub {α : Type} (l : List α) (f : α → List Int) (c : Nat) (h : ∀ a ∈ l, (f a).length ≤ c) (j n : Nat) (hj : j ≤ n) (hl : l.length ≤ n) : ((l.take j).flatMap f).length ≤ c * n :=
  Nat.le_trans (flat_len _ f c (fun a ha => h a (List.mem_of_mem_take ha))) (Nat.mul_le_mul_left c (by rw [List.length_take]; omega))
theorem u8w (x : Int) : IntKind.u8.wrap x = x % 256 := by first | rfl | simp [IntKind.wrap]
theorem row0 {α : Type} {w : World} {B : Nat} {v : Value} {H : List Int} (l : List α) (f : α → List Int) (h : RowB w B v H) : RowB w B v (H ++ (l.take 0).flatMap f) := by
  have e : H ++ (l.take 0).flatMap f = H := by simp
  rw [e]
  exact h
theorem flat_snocD (H l : List Int) (f : Int → List Int) (j : Nat) (h : j < l.length) : (H ++ (l.take j).flatMap f) ++ f (l.getD j 0) = H ++ (l.take (j + 1)).flatMap f := by
  rw [flat_snoc l f j h, List.getD_eq_getElem?_getD, List.getElem?_eq_getElem h, List.append_assoc]
  rfl
set_option maxHeartbeats 8000000 in
theorem write_any (k f t te ix lt co : Int) (ok : Bool) (ea ma : Option Addr) (en ec mn mcp : Nat) (es : List En) (ms : List Int) (dt : ByteArray) (w : World) (h : Rok w ⟨⟨k, f, t, te, ix, lt, co, ok, es, ms, dt⟩, ea, en, ec, ma, mn, mcp⟩) (hf : Fit ⟨k, f, t, te, ix, lt, co, ok, es, ms, dt⟩) :
    Calls Tryz.prog 24 #[.agg #[.int .i64 k, .int .i64 f, .int .i64 t, .int .i64 te, .int .i64 ix, .int .i64 lt, .int .i64 co, .bool ok, .slice ea en ec, .slice ma mn mcp, .string dt]] w fun e w' => WrR ⟨k, f, t, te, ix, lt, co, ok, es, ms, dt⟩ e w w' := by
  obtain ⟨_, g1, g2, g3, g4, g5⟩ := hf
  dsimp only at g1 g2 g3 g4 g5
  have hen : en ≤ 255 := by have h1 := g1.2; have h2 := h.1.1; dsimp only at h2; simp only [Int.reducePow] at h1; omega
  have hmn : mn ≤ 255 := by have h1 := g3.2; have h2 := h.2.1; dsimp only at h2; simp only [Int.reducePow] at h1; omega
  have hdt : dt.size ≤ 4294967296 := by have h1 := g5.2; simp only [Int.reducePow] at h1; omega
  have HEL : Hid (es.length = en) := h.1.1
  have HML : Hid (ms.length = mn) := h.2.1
  have HWE := hide (efit_we g2)
  have HWB := hide (wb_parts k f t te ix lt co ok es ms dt)
  obtain ⟨B0, hB⟩ : ∃ B0, B0 = w.heap.size := ⟨_, rfl⟩
  have HB : Hid (Bx (w.alloc (.cells #[.int .i64 k, .int .i64 f, .int .i64 t, .int .i64 te, .int .i64 ix, .int .i64 lt, .int .i64 co, .bool ok, .slice ea en ec, .slice ma mn mcp, .string dt] 27)) B0 [.int .i64 k, .int .i64 f, .int .i64 t, .int .i64 te, .int .i64 ix, .int .i64 lt, .int .i64 co, .bool ok, .slice ea en ec, .slice ma mn mcp, .string dt] 27) := Bx.new w [.int .i64 k, .int .i64 f, .int .i64 t, .int .i64 te, .int .i64 ix, .int .i64 lt, .int .i64 co, .bool ok, .slice ea en ec, .slice ma mn mcp, .string dt] 27 B0 hB
  have HW : Hid (Below w.heap.size w (w.alloc (.cells #[.int .i64 k, .int .i64 f, .int .i64 t, .int .i64 te, .int .i64 ix, .int .i64 lt, .int .i64 co, .bool ok, .slice ea en ec, .slice ma mn mcp, .string dt] 27))) := (Below.refl _ _).alloc (Nat.le_refl _) _
  have HK := hide h
  clear h g1 g2 g3 g4 g5
  go_enter Tryz.func24, Tryz.ntmps24
  go_upto_region 1 with fail
  change Code.wp _ _ _ _ (w.alloc (.cells #[.int .i64 k, .int .i64 f, .int .i64 t, .int .i64 te, .int .i64 ix, .int .i64 lt, .int .i64 co, .bool ok, .slice ea en ec, .slice ma mn mcp, .string dt] 27))
  rw [← hB]
  generalize w.alloc (.cells #[.int .i64 k, .int .i64 f, .int .i64 t, .int .i64 te, .int .i64 ix, .int .i64 lt, .int .i64 co, .bool ok, .slice ea en ec, .slice ma mn mcp, .string dt] 27) = W at HB HW ⊢
  have hBw : w.heap.size ≤ B0 := by omega
  have hBv : B0 ≤ w.heap.size := by omega
  clear hB
  have hBW : B0 < W.heap.size := (unhide HB).lt
  refine wp_region_noPanic ?_
  refine wp_region_held_drew (S := fun W' => W'.cell? ⟨B0, 0, none⟩ = some (.int .i64 k) ∧ W'.cell? ⟨B0, 1, none⟩ = some (.int .i64 f) ∧ W'.cell? ⟨B0, 2, none⟩ = some (.int .i64 t) ∧ W'.cell? ⟨B0, 7, none⟩ = some (.bool ok)) (by kernel_rfl) ⟨(unhide HB).cell 0 _ rfl, (unhide HB).cell 1 _ rfl, (unhide HB).cell 2 _ rfl, (unhide HB).cell 7 _ rfl⟩ (fun hH0 => ?_)
  refine rtk 0 (h := ?_)
  refine rtk 1 (h := ?_)
  refine rtk 2 (h := ?_)
  refine rtk 3 (h := ?_)
  refine rtk 4 (h := ?_)
  refine rtk 5 (h := ?_)
  refine rtk 6 (h := ?_)
  refine rtk 7 (h := ?_)
  refine rtk 8 (h := ?_)
  refine rtk 9 (h := ?_)
  refine rtk 10 (h := ?_)
  have HBd : Hid (Bx W.drew B0 [.int .i64 k, .int .i64 f, .int .i64 t, .int .i64 te, .int .i64 ix, .int .i64 lt, .int .i64 co, .bool ok, .slice ea en ec, .slice ma mn mcp, .string dt] 27) := unhide HB
  have HWd : Hid (Below w.heap.size w W.drew) := below_drewN (unhide HW) 1
  have hBd : B0 < W.drew.heap.size := hBW
  generalize W.drew = wd at HBd HWd hBd hH0 ⊢
  refine rcl 11 (h := fun K hK => ?_)
  go_simp
  refine (flag_wf ok _).mono ?_
  rintro e w' ⟨rfl, rfl⟩
  refine hK.out _ _ hH0 (fun hH1 => ?_)
  clear hK K
  refine rcl 12 (h := fun K hK => ?_)
  go_simp
  obtain ⟨X, hX⟩ : ∃ X, X = w'.heap.size := ⟨_, rfl⟩
  have HO1 : Hid (RowB (w'.alloc (.cells #[.int .u8 (IntKind.u8.wrap k), .int .u8 (IntKind.u8.wrap f), .int .u8 (IntKind.u8.wrap t), .int .u8 (wf ok)] 5)) (B0 + 1) (.slice (some ⟨X, 0, none⟩) 4 4) (hd4 k f t ok)) := by
    rw [hX, u8w k, u8w f, u8w t]
    exact owns_mono (lit_own w' (hd4 k f t ok) 4 rfl (by omega)) (by omega)
  have HB1 := hide ((unhide HBd).below ((Below.refl _ _).alloc (Nat.le_refl _) (.cells #[.int .u8 (IntKind.u8.wrap k), .int .u8 (IntKind.u8.wrap f), .int .u8 (IntKind.u8.wrap t), .int .u8 (wf ok)] 5)))
  have HW1 : Hid (Below w.heap.size w (w'.alloc (.cells #[.int .u8 (IntKind.u8.wrap k), .int .u8 (IntKind.u8.wrap f), .int .u8 (IntKind.u8.wrap t), .int .u8 (wf ok)] 5))) := bnx (unhide HWd) ((Below.refl _ _).alloc (Nat.le_refl _) _)
  refine hK.out _ _ ⟨(unhide HB1).cell 0 _ rfl, (unhide HB1).cell 1 _ rfl, (unhide HB1).cell 2 _ rfl, (unhide HB1).cell 7 _ rfl⟩ (fun hH2 => ?_)
  rw [← hX]
  have hs1 : B0 < (w'.alloc (.cells #[.int .u8 (IntKind.u8.wrap k), .int .u8 (IntKind.u8.wrap f), .int .u8 (IntKind.u8.wrap t), .int .u8 (wf ok)] 5)).heap.size := (unhide HB1).lt
  clear hK K hX hH0 hH1
  generalize w'.alloc (.cells #[.int .u8 (IntKind.u8.wrap k), .int .u8 (IntKind.u8.wrap f), .int .u8 (IntKind.u8.wrap t), .int .u8 (wf ok)] 5) = W1 at HO1 HB1 HW1 hH2 hs1 ⊢
  refine rcl 13 (h := fun K hK => ?_)
  go_simp
  refine hK.out _ _ hH2 (fun _ => ?_)
  clear hK K hH2
  refine wpAnyH_done (by kernel_rfl) ?_ _
  refine NoPanic.normal ?_
  clear HB HW HBd HWd
  have c3 := (unhide HB1).cell 3 _ rfl
  have c4 := (unhide HB1).cell 4 _ rfl
  have c5 := (unhide HB1).cell 5 _ rfl
  have c6 := (unhide HB1).cell 6 _ rfl
  generalize hd4 k f t ok = H4 at HO1 HWB
  obtain ⟨hl4, HL4⟩ : ∃ n, n = H4.length := ⟨_, rfl⟩
  have hh4 : H4.length = 4 := by
    have := (unhide HO1).2
    rcases this with ⟨e, _⟩ | ⟨g, cap, cur, e, _⟩
    · cases e
    · simp only [Value.slice.injEq] at e; omega
  clear HL4 hl4
  obtain ⟨Y, hY⟩ : ∃ Y, Y = W1.heap.size := ⟨_, rfl⟩
  have HYB : Hid (Bx (W1.alloc (.cells #[.int .i64 te, .int .i64 ix, .int .i64 lt, .int .i64 co] 3)) Y [.int .i64 te, .int .i64 ix, .int .i64 lt, .int .i64 co] 3) := Bx.new _ _ _ _ hY
  have hal : Below W1.heap.size W1 (W1.alloc (.cells #[.int .i64 te, .int .i64 ix, .int .i64 lt, .int .i64 co] 3)) := (Below.refl _ _).alloc (Nat.le_refl _) _
  have HO2 : Hid (RowB (W1.alloc (.cells #[.int .i64 te, .int .i64 ix, .int .i64 lt, .int .i64 co] 3)) (B0 + 1) (.slice (some ⟨X, 0, none⟩) 4 4) H4) := World.ownsRow.alloc (unhide HO1) _
  have HB2 := hide ((unhide HB1).below hal)
  have HW2 : Hid (Below w.heap.size w (W1.alloc (.cells #[.int .i64 te, .int .i64 ix, .int .i64 lt, .int .i64 co] 3))) := bnx (unhide HW1) hal
  have hs2 : B0 + 1 ≤ (W1.alloc (.cells #[.int .i64 te, .int .i64 ix, .int .i64 lt, .int .i64 co] 3)).heap.size := by simp; omega
  clear hal HO1 HB1 HW1
  go_upto_block 0 with fail
  rw [← hY]
  generalize W1.alloc (.cells #[.int .i64 te, .int .i64 ix, .int .i64 lt, .int .i64 co] 3) = W2 at HYB HO2 HB2 HW2 hs2 ⊢
  clear c3 c4 c5 c6 hY hs1
  go_wp2
  go_loopw [3, 33] (fun v i wr => ∃ j : Nat, j ≤ 4 ∧ i = .int .i64 j ∧ B0 + 1 ≤ wr.heap.size ∧ Hid (RowB wr (B0 + 1) v (H4 ++ ([te, ix, lt, co].take j).flatMap (wn 5))) ∧ Hid (Below w.heap.size w wr) ∧ Hid (Bx wr B0 [.int .i64 k, .int .i64 f, .int .i64 t, .int .i64 te, .int .i64 ix, .int .i64 lt, .int .i64 co, .bool ok, .slice ea en ec, .slice ma mn mcp, .string dt] 27) ∧ Hid (Bx wr Y [.int .i64 te, .int .i64 ix, .int .i64 lt, .int .i64 co] 3)) (fun _ i _ => 4 - (intOf i).toNat)
  case atStart => exact ⟨0, Nat.zero_le _, rfl, hs2, row0 _ _ (unhide HO2), HW2, HB2, HYB⟩
  case round =>
    obtain ⟨j, hj, rfl, hsr, HOr, HWr, HBr, HYr⟩ := hrel
    by_cases hlt : j < 4
    · have hx : [Value.int .i64 te, .int .i64 ix, .int .i64 lt, .int .i64 co][j]? = some (.int .i64 ([te, ix, lt, co].getD j 0)) := by
        have : j = 0 ∨ j = 1 ∨ j = 2 ∨ j = 3 := by omega
        rcases this with rfl | rfl | rfl | rfl <;> rfl
      have c0 := (unhide HYr).cell j _ hx
      have HSN : Hid ((H4 ++ ([te, ix, lt, co].take j).flatMap (wn 5)) ++ wn 5 ([te, ix, lt, co].getD j 0) = H4 ++ ([te, ix, lt, co].take (j + 1)).flatMap (wn 5)) := by
        exact flat_snocD H4 _ (wn 5) j (by simpa using hlt)
      have hlen : (H4 ++ ([te, ix, lt, co].take j).flatMap (wn 5)).length ≤ 34359738368 := by
        rw [List.length_append]
        have := take_sub [te, ix, lt, co] (wn 5) 5 (fun a _ => by rw [wn_len]; exact Nat.le_refl _) j 4 hj (by simp)
        omega
      generalize [te, ix, lt, co].getD j 0 = x at c0 HSN hx
      have HAP := hide (appN_any (B0 + 1) u3 _ x 5 wr hsr (by omega) hlen (unhide HOr))
      clear hx HOr
      go_wp2_with fail
      refine (unhide HAP).mono ?_
      rintro e w2 ⟨v2, rfl, HO3, HB3, hs3, HK3⟩
      have HWr2 : Hid (Below w.heap.size w w2) := (unhide HWr).trans ((unhide HB3).mono (by omega))
      have HBr2 : Hid (Bx w2 B0 [.int .i64 k, .int .i64 f, .int .i64 t, .int .i64 te, .int .i64 ix, .int .i64 lt, .int .i64 co, .bool ok, .slice ea en ec, .slice ma mn mcp, .string dt] 27) := unhide HK3 _ _ _ (by decide) (unhide HBr)
      have HYr2 : Hid (Bx w2 Y [.int .i64 te, .int .i64 ix, .int .i64 lt, .int .i64 co] 3) := unhide HK3 _ _ _ (by decide) (unhide HYr)
      clear HAP HB3 HK3 HWr HBr HYr c0
      go_wp2
      go_roundw
      case rel => exact ⟨j + 1, by omega, by go_num, hs3, by show RowB _ _ _ _; rw [← unhide HSN]; exact unhide HO3, HWr2, HBr2, HYr2⟩
      case measure => simp [intOf]; omega
    · obtain rfl : j = 4 := by omega
      rw [show ([te, ix, lt, co] : List Int).take 4 = [te, ix, lt, co] from rfl] at HOr
      have hlenN : (H4 ++ [te, ix, lt, co].flatMap (wn 5)).length ≤ 24 := by
        rw [List.length_append]
        have := flat_len [te, ix, lt, co] (wn 5) 5 (fun a _ => by rw [wn_len]; exact Nat.le_refl _)
        simp only [List.length_cons, List.length_nil] at this
        omega
      generalize H4 ++ [te, ix, lt, co].flatMap (wn 5) = P1 at HOr HWB hlenN
      clear HYr
      have c8 := (unhide HBr).cell 8 _ rfl
      have HAP := hide (appN_any (B0 + 1) u3 P1 (en : Int) 1 wr hsr (by omega) (by omega) (unhide HOr))
      go_wp2_with fail
      refine (unhide HAP).mono ?_
      rintro e w2 ⟨v2, rfl, HO3, HB3, hs3, HK3⟩
      have HW3 : Hid (Below w.heap.size w w2) := (unhide HWr).trans ((unhide HB3).mono (by omega))
      have HBx3 : Hid (Bx w2 B0 [.int .i64 k, .int .i64 f, .int .i64 t, .int .i64 te, .int .i64 ix, .int .i64 lt, .int .i64 co, .bool ok, .slice ea en ec, .slice ma mn mcp, .string dt] 27) := unhide HK3 _ _ _ (by decide) (unhide HBr)
      rw [unhide HEL] at HWB
      have hlen2 : (P1 ++ wn 1 (en : Int)).length ≤ 25 := by rw [List.length_append, wn_len]; omega
      generalize P1 ++ wn 1 (en : Int) = P2 at HO3 HWB hlen2
      clear HAP HB3 HK3 HWr HBr c8 HOr
      have c8 := (unhide HBx3).cell 8 _ rfl
      go_wp2
      go_loopw [3, 49] (fun v i wr => ∃ j : Nat, j ≤ en ∧ i = .int .i64 j ∧ B0 + 1 ≤ wr.heap.size ∧ Hid (RowB wr (B0 + 1) v (P2 ++ (es.take j).flatMap we)) ∧ Hid (Below w.heap.size w wr) ∧ Hid (Bx wr B0 [.int .i64 k, .int .i64 f, .int .i64 t, .int .i64 te, .int .i64 ix, .int .i64 lt, .int .i64 co, .bool ok, .slice ea en ec, .slice ma mn mcp, .string dt] 27)) (fun _ i _ => en - (intOf i).toNat)
      case atStart => exact ⟨0, Nat.zero_le _, rfl, hs3, row0 _ _ (unhide HO3), HW3, HBx3⟩
      case round =>
        obtain ⟨j, hj, rfl, hsr, HOr, HWr, HBr⟩ := hrel
        have hl5 : (P2 ++ (es.take j).flatMap we).length ≤ 16713500 := by
          rw [List.length_append]
          have := take_sub es we 65543 (unhide HWE) j 255 (by omega) (by rw [unhide HEL]; omega)
          omega
        by_cases hlt : j < en
        · obtain ⟨b, off, rfl, q0, q1, q2, q3⟩ := es_cells ((unhide HK).1.below (unhide HWr)) hlt
          have HSN : Hid (P2 ++ (es.take (j + 1)).flatMap we = (P2 ++ (es.take j).flatMap we) ++ we (en0 es j)) := by
            show _ = _
            rw [flat_snoc es we j (by rw [unhide HEL]; exact hlt), en0_get es j (by rw [unhide HEL]; exact hlt), List.append_assoc]
          have hsz : (en0 es j).2.2.2.size ≤ 65543 := by
            have h1 := unhide HWE (en0 es j) (by rw [en0_get es j (by rw [unhide HEL]; exact hlt)]; exact List.getElem_mem _)
            unfold we wt at h1
            simp only [List.length_append, sb_length] at h1
            omega
          generalize P2 ++ (es.take j).flatMap we = P3 at HOr HSN hl5
          obtain ⟨x, y, z, s, hp⟩ : ∃ x y z s, en0 es j = (x, y, z, s) := ⟨_, _, _, _, rfl⟩
          rw [hp] at q0 q1 q2 q3 hsz HSN
          dsimp only at q0 q1 q2 q3 hsz
          have HSN2 : Hid (P2 ++ (es.take (j + 1)).flatMap we = ((P3 ++ wn 1 z) ++ wn 5 y) ++ wt 2 s) := by show _ = _; rw [unhide HSN]; unfold we; simp only [List.append_assoc]
          clear hp HSN
          obtain ⟨Z, hZ⟩ : ∃ Z, Z = wr.heap.size := ⟨_, rfl⟩
          have hal : Below wr.heap.size wr (wr.alloc (.cells #[.int .i64 x, .int .i64 y, .int .i64 z, .string s] 56)) := (Below.refl _ _).alloc (Nat.le_refl _) _
          have HZ4 : Hid (Bx (wr.alloc (.cells #[.int .i64 x, .int .i64 y, .int .i64 z, .string s] 56)) Z [.int .i64 x, .int .i64 y, .int .i64 z, .string s] 56) := Bx.new _ _ _ _ hZ
          have HO4 : Hid (RowB (wr.alloc (.cells #[.int .i64 x, .int .i64 y, .int .i64 z, .string s] 56)) (B0 + 1) u3 P3) := World.ownsRow.alloc (unhide HOr) _
          have HW4 : Hid (Below w.heap.size w (wr.alloc (.cells #[.int .i64 x, .int .i64 y, .int .i64 z, .string s] 56))) := bnx (unhide HWr) hal
          have HB4 := hide ((unhide HBr).below hal)
          have hs4 : B0 + 1 ≤ (wr.alloc (.cells #[.int .i64 x, .int .i64 y, .int .i64 z, .string s] 56)).heap.size := by simp; omega
          go_upto_region 11 with fail
          rw [← hZ]
          generalize wr.alloc (.cells #[.int .i64 x, .int .i64 y, .int .i64 z, .string s] 56) = wz at HZ4 HO4 HW4 HB4 hs4 ⊢
          clear hal q0 q1 q2 q3 hZ HOr HWr HBr
          have d2 := (unhide HZ4).cell 2 _ rfl
          have HAP := hide (appN_any (B0 + 1) u3 P3 z 1 wz hs4 (by omega) (by omega) (unhide HO4))
          go_wp2_with fail
          refine (unhide HAP).mono ?_
          rintro e w5 ⟨v5, rfl, HO5, HB, hs5, HKk⟩
          have HW5 : Hid (Below w.heap.size w w5) := (unhide HW4).trans ((unhide HB).mono (by omega))
          have HB5 := hide (unhide HKk B0 _ _ (by decide) (unhide HB4))
          have HZ5 : Hid (Bx w5 Z [.int .i64 x, .int .i64 y, .int .i64 z, .string s] 56) := unhide HKk _ _ _ (by decide) (unhide HZ4)
          clear HAP HB HKk d2 HO4 HW4 HB4 HZ4
          have d1 := (unhide HZ5).cell 1 _ rfl
          have HAP := hide (appN_any (B0 + 1) v5 (P3 ++ wn 1 z) y 5 w5 hs5 (by omega) (by rw [List.length_append, wn_len]; omega) (unhide HO5))
          go_wp2_with fail
          refine (unhide HAP).mono ?_
          rintro e w6 ⟨v6, rfl, HO6, HB, hs6, HKk⟩
          have HW6 : Hid (Below w.heap.size w w6) := (unhide HW5).trans ((unhide HB).mono (by omega))
          have HB6 := hide (unhide HKk B0 _ _ (by decide) (unhide HB5))
          have HZ6 : Hid (Bx w6 Z [.int .i64 x, .int .i64 y, .int .i64 z, .string s] 56) := unhide HKk _ _ _ (by decide) (unhide HZ5)
          clear HAP HB HKk d1 HO5 HW5 HB5 HZ5
          have d3 := (unhide HZ6).cell 3 _ rfl
          have HAP := hide (appT_any (B0 + 1) v6 ((P3 ++ wn 1 z) ++ wn 5 y) s 2 w6 hs6 (by omega) (by omega) (by rw [List.length_append, List.length_append, wn_len, wn_len]; omega) (unhide HO6))
          go_wp2_with fail
          refine (unhide HAP).mono ?_
          rintro e w7 ⟨v7, rfl, HO7, HB, hs7, HKk⟩
          have HW7 : Hid (Below w.heap.size w w7) := (unhide HW6).trans ((unhide HB).mono (by omega))
          have HB7 := hide (unhide HKk B0 _ _ (by decide) (unhide HB6))
          have HZ7 : Hid (Bx w7 Z [.int .i64 x, .int .i64 y, .int .i64 z, .string s] 56) := unhide HKk _ _ _ (by decide) (unhide HZ6)
          clear HAP HB HKk d3 HO6 HW6 HB6 HZ6
          clear HZ7
          go_wp2
          go_roundw
          case rel => exact ⟨j + 1, by omega, by go_num, hs7, by show RowB _ _ _ _; rw [unhide HSN2]; exact unhide HO7, HW7, HB7⟩
          case measure => simp [intOf]; omega
        · obtain rfl : en = j := by omega
          rw [List.take_of_length_le (by rw [unhide HEL]; exact Nat.le_refl _)] at HOr hl5
          generalize P2 ++ es.flatMap we = P3 at HOr hl5 HWB
          have c9 := (unhide HBr).cell 9 _ rfl
          have HAP := hide (appN_any (B0 + 1) u3 P3 (mn : Int) 1 wr hsr (by omega) (by omega) (unhide HOr))
          go_wp2_with fail
          refine (unhide HAP).mono ?_
          rintro e w4 ⟨v4, rfl, HO4, HB, hs4, HKk⟩
          have HW4 : Hid (Below w.heap.size w w4) := (unhide HWr).trans ((unhide HB).mono (by omega))
          have HB4 : Hid (Bx w4 B0 [.int .i64 k, .int .i64 f, .int .i64 t, .int .i64 te, .int .i64 ix, .int .i64 lt, .int .i64 co, .bool ok, .slice ea en ec, .slice ma mn mcp, .string dt] 27) := unhide HKk _ _ _ (by decide) (unhide HBr)
          rw [unhide HML] at HWB
          have hl6 : (P3 ++ wn 1 (mn : Int)).length ≤ 16713501 := by rw [List.length_append, wn_len]; omega
          generalize P3 ++ wn 1 (mn : Int) = P4 at HO4 HWB hl6
          clear HAP HB HKk HWr HBr c9 HOr
          have c9 := (unhide HB4).cell 9 _ rfl
          go_wp2
          go_loopw [3, 74] (fun v i wr => ∃ j : Nat, j ≤ mn ∧ i = .int .i64 j ∧ B0 + 1 ≤ wr.heap.size ∧ Hid (RowB wr (B0 + 1) v (P4 ++ (ms.take j).flatMap (wn 1))) ∧ Hid (Below w.heap.size w wr) ∧ Hid (Bx wr B0 [.int .i64 k, .int .i64 f, .int .i64 t, .int .i64 te, .int .i64 ix, .int .i64 lt, .int .i64 co, .bool ok, .slice ea en ec, .slice ma mn mcp, .string dt] 27)) (fun _ i _ => mn - (intOf i).toNat)
          case atStart => exact ⟨0, Nat.zero_le _, rfl, hs4, row0 _ _ (unhide HO4), HW4, HB4⟩
          case round =>
            obtain ⟨j, hj, rfl, hsr, HOr, HWr, HBr⟩ := hrel
            have hl7 : (P4 ++ (ms.take j).flatMap (wn 1)).length ≤ 16713800 := by
              rw [List.length_append]
              have := take_sub ms (wn 1) 1 (fun a _ => by rw [wn_len]; exact Nat.le_refl _) j 255 (by omega) (by rw [unhide HML]; omega)
              omega
            by_cases hlt : j < mn
            · obtain ⟨b, off, rfl, q0⟩ := (show Ls wr ma mn mcp ms from (unhide HK).2.below (unhide HWr)).at hlt
              have HSN : Hid (P4 ++ (ms.take (j + 1)).flatMap (wn 1) = (P4 ++ (ms.take j).flatMap (wn 1)) ++ wn 1 (ms.getD j 0)) := by
                show _ = _
                rw [flat_snoc ms (wn 1) j (by rw [unhide HML]; exact hlt), List.getD_eq_getElem?_getD, List.getElem?_eq_getElem (by rw [unhide HML]; exact hlt), List.append_assoc]
                rfl
              generalize P4 ++ (ms.take j).flatMap (wn 1) = P5 at HOr HSN hl7
              generalize ms.getD j 0 = x at q0 HSN
              have HAP := hide (appN_any (B0 + 1) u3 P5 x 1 wr hsr (by omega) (by omega) (unhide HOr))
              go_wp2_with fail
              refine (unhide HAP).mono ?_
              rintro e w5 ⟨v5, rfl, HO5, HB, hs5, HKk⟩
              have HW5 : Hid (Below w.heap.size w w5) := (unhide HWr).trans ((unhide HB).mono (by omega))
              have HB5 := hide (unhide HKk B0 _ _ (by decide) (unhide HBr))
              clear HAP HB HKk HOr HWr HBr q0
              go_wp2
              go_roundw
              case rel => exact ⟨j + 1, by omega, by go_num, hs5, by show RowB _ _ _ _; rw [unhide HSN]; exact unhide HO5, HW5, HB5⟩
              case measure => simp [intOf]; omega
            · obtain rfl : mn = j := by omega
              rw [List.take_of_length_le (by rw [unhide HML]; exact Nat.le_refl _)] at HOr hl7
              generalize P4 ++ ms.flatMap (wn 1) = P5 at HOr hl7 HWB
              have c10 := (unhide HBr).cell 10 _ rfl
              have HAP := hide (appT_any (B0 + 1) u3 P5 dt 4 wr hsr (by omega) hdt (by omega) (unhide HOr))
              go_wp2_with fail
              refine (unhide HAP).mono ?_
              rintro e w5 ⟨v5, rfl, HO5, HB, hs5, HKk⟩
              have HW5 : Hid (Below w.heap.size w w5) := (unhide HWr).trans ((unhide HB).mono (by omega))
              have HZ : Hid (RowB w5 w.heap.size v5 (wb ⟨k, f, t, te, ix, lt, co, ok, es, ms, dt⟩)) := by
                show RowB _ _ _ _
                rw [unhide HWB]
                exact owns_mono (unhide HO5) (by omega)
              clear HAP HB HKk HOr HWr HBr c10 HO5
              go_wp2
              go_ret
              exact ⟨_, rfl, HZ, HW5⟩
end Go.Proofs.YtmmhdhpocjnlbaaGreatDoor.Jr
