/- Proved here: helpers, one text behind the other. -/
import Derived.Test.YtpoeakillimibaaGreatDoorM37
import Derived.Test.YtpoeakillimibaaGreatDoorM36
import Derived.Test.YtpoeakillimibaaGreatDoorZKTk
/- Proved here: packet.Decode at any bytes. Helper contracts. -/
namespace Go.Proofs.YtpoeakillimibaaGreatDoor.K
open Go.RowKit

theorem decode_any (v : Value) (l : List Int) (w : World) (h : Byt w v l) : Calls Tryz.prog 33 #[v] w (DecPost l w) := by
  by_cases hl : l = []
  · subst hl
    obtain ⟨ao, cap, rfl, _⟩ := h.form
    exact dec_nil ao cap w
  · obtain ⟨b, off, cap, rfl, _⟩ := h.form1 (List.length_pos_iff.2 hl)
    cases hok : bok (l.getD 0 0)
    · exact dec_flag b off cap l w h hl hok
    · by_cases hm : (meas l).2.2 = 0
      · exact dec_body b off cap l w h hl hok hm
      · exact dec_meas b off cap l w h hl hok hm
end Go.Proofs.YtpoeakillimibaaGreatDoor.K
/- Proved here: dovecotelaw0's Wills and Packet, handed rows of the caller's own, write into these alone. Helper contracts. -/
namespace Go.Proofs.YtpoeakillimibaaGreatDoor.K
open Go.RowKit
set_option maxRecDepth 100000

theorem infoWill : (Tryz.prog.info? 73).map (fun i => (i.zero, i.size, i.bytes)) = some (some (.agg #[.string ⟨#[]⟩, .string ⟨#[]⟩, .int .i64 0, .bool false, .slice none 0 0]), 5, 72) := by kernel_rfl
/-- blocks that spoiling a packet may turn -/
def spT (t : TypeId) : Prop := t = 120 ∨ t = 73 ∨ t = 9 ∨ t = 75 ∨ t = 3
theorem wnew_one : ∀ u ∈ [Value.string ⟨#[]⟩, .string ⟨#[]⟩, .int .i64 0, .bool false, .slice none 0 0], u.oneCell' = true := by
  intro u hu
  simp only [List.mem_cons, List.not_mem_nil, or_false] at hu
  rcases hu with rfl | rfl | rfl | rfl | rfl <;> rfl
theorem will_ne : ¬ ((73 : TypeId) = 120) := by decide
set_option maxHeartbeats 4000000 in
theorem wills_sp (B : Nat) (v : Value) (n : Nat) (ws : List Wv) (w : World) (hB : B ≤ w.heap.size) (hn : n ≤ 1000000) (h : w.ownsRow B 73 5 v n (wcs ws)) (hp : ∀ (i : Nat) (u : Wv), ws[i]? = some u → ∃ m, m ≤ 1000000 ∧ OwnE w B 120 4 u.props.val m) : Calls Tryz.prog 75 #[v] w fun e w' => e = .returned (.tuple #[]) ∧ SF B (fun t => t = 120 ∨ t = 73) w w' := by
  obtain ⟨i0, hi, hz0, hz1, hz2⟩ := info_parts infoWill
  have hwl : ws.length = n := by have := h.1; rw [wcs_length] at this; omega
  have hv : (v = .slice none 0 0 ∧ n = 0) ∨ ∃ g cap, v = .slice (some ⟨g, 0, none⟩) n cap := by
    rcases h.2 with h1 | ⟨g, cap, _, h1, _⟩
    · exact .inl h1
    · exact .inr ⟨g, cap, h1⟩
  rcases hv with ⟨rfl, rfl⟩ | ⟨g, cap, rfl⟩
  · clear h hp hwl
    go_enter Tryz.func75, Tryz.ntmps75
    go_wp2
    refine wp_loop_rounds 1 ?_
    rw [rounds_succ]
    have HAPP : Hid (∀ ty, ∃ v' w', (Builtin.append_ #[25, 25] ty #[.slice none 0 0, .slice (some ⟨w.heap.size, 0, none⟩) 1 1]).run Tryz.prog (w.alloc (.cells #[.string ⟨#[]⟩, .string ⟨#[]⟩, .int .i64 0, .bool false, .slice none 0 0] 73)) = .ok v' w' ∧ SF B (fun t => t = 120 ∨ t = 73) w w') := fun ty => by
      obtain ⟨v', w', h1, h2⟩ := app_sf (B := B) (T := fun t => t = 120 ∨ t = 73) (w.alloc (.cells #[.string ⟨#[]⟩, .string ⟨#[]⟩, .int .i64 0, .bool false, .slice none 0 0] 73)) 25 ty 73 i0 _ 5 72 Tryz.underlying25 hi hz0 hz1 hz2 rfl (by decide) (.slice none 0 0) 0 ⟨[], World.ownsRow_nil _ _ _ _⟩ ⟨w.heap.size, 0, none⟩ 1 [.string ⟨#[]⟩, .string ⟨#[]⟩, .int .i64 0, .bool false, .slice none 0 0] rfl (five_cell _ _ _ _ _ _ _) wnew_one hn (by decide) (by simp; omega) (.inr rfl)
      exact ⟨v', w', h1, (SF.bel ((Below.refl _ _).alloc (Nat.le_refl _) _) hB).trans h2⟩
    go_wp2_with (first
      | (at_builtin; refine wpList_append_run _ (Z := fun _ w' => SF B (fun t => t = 120 ∨ t = 73) w w') rfl _ _ 25 25 rfl _ _ rfl rfl ((unhide HAPP) _) ?_)
      | go_in)
    intro v' w1 hsf
    have HSF := hide hsf
    clear hsf HAPP
    go_wp2
    go_end0
    exact ⟨rfl, unhide HSF⟩
  · have HO := hide h
    have HP := hide hp
    have HWL := hide hwl
    clear h hp hwl
    go_enter Tryz.func75, Tryz.ntmps75
    go_wp2
    go_loopw [2] (fun i wr => ∃ (k : Nat) (ys : List Value), k ≤ n ∧ i = .int .i64 k ∧ Hid (SF B (fun t => t = 120 ∨ t = 73) w wr) ∧ Hid (wr.ownsRow B 73 5 (.slice (some ⟨g, 0, none⟩) n cap) n ys) ∧ Hid (∀ j, k * 5 ≤ j → ys[j]? = (wcs ws)[j]?)) (fun i _ => n - (intOf i).toNat)
    case atStart => exact ⟨0, wcs ws, Nat.zero_le _, rfl, SF.refl _ _ _, HO, fun _ _ => rfl⟩
    case round =>
      obtain ⟨k, ys, hk, rfl, HSF, HY, HYS⟩ := hrel
      by_cases hlt : k < n
      · obtain ⟨u, hu⟩ : ∃ u, ws[k]? = some u := ⟨_, List.getElem?_eq_getElem (by rw [unhide HWL]; exact hlt)⟩
        obtain ⟨m, hm, ho⟩ := (unhide HP) k u hu
        obtain ⟨ut, up, uq, ur, ⟨pa, pn, pc⟩⟩ := u
        have c4 : wr.cell? ⟨g, k * 5 + 4, none⟩ = some (.slice pa pn pc) := by
          rw [(unhide HY).cellAt (k * 5 + 4) (by omega), (unhide HYS) (k * 5 + 4) (by omega), wcs_get ws k _ hu 4 (by omega)]
          rfl
        have HO2 := hide (ho.sf (unhide HSF))
        have hBr : B ≤ wr.heap.size := Nat.le_trans hB (unhide HSF).size
        have HPS := hide (props_sp B (.slice pa pn pc) m wr hBr hm (unhide HO2))
        clear ho hu
        go_wp2_with fail
        refine (unhide HPS).mono ?_
        rintro e w2 ⟨rfl, hsf⟩
        have HSF2 : Hid (SF B (fun t => t = 120 ∨ t = 73) w w2) := (unhide HSF).trans (hsf.weak (fun _ h => .inl h))
        have HY2 : Hid (w2.ownsRow B 73 5 (.slice (some ⟨g, 0, none⟩) n cap) n ys) := owns_sf (unhide HY) hsf will_ne
        have hE : OwnE w2 B 73 5 (.slice (some ⟨g, 0, none⟩) n cap) n := ⟨ys, unhide HY2⟩
        have HG : Hid (SFg B (fun t => t = 120 ∨ t = 73) w w2 g 73) := ⟨unhide HSF2, hE.blk.1, .inr rfl, hE.blk.2⟩
        obtain ⟨⟨v0, d0⟩, f0⟩ := hE.cell (k * 5) (by omega)
        obtain ⟨⟨v1, d1⟩, f1⟩ := hE.cell (k * 5 + 1) (by omega)
        obtain ⟨⟨v2, d2⟩, f2⟩ := hE.cell (k * 5 + 2) (by omega)
        obtain ⟨⟨v3, d3⟩, f3⟩ := hE.cell (k * 5 + 3) (by omega)
        obtain ⟨⟨v4, d4⟩, f4⟩ := hE.cell (k * 5 + 4) (by omega)
        clear hsf hE HPS HO2 HSF HY c4
        go_wp2
        go_roundw
        case rel =>
          have hs := (((((unhide HY2).stored (k * 5) (.string ⟨#[115, 112, 111, 105, 108, 116]⟩)).1.stored (k * 5 + 1) (.string ⟨#[]⟩)).1.stored (k * 5 + 2) (.int .i64 0)).1.stored (k * 5 + 3) (.bool false)).1.stored (k * 5 + 4) (.slice none 0 0)
          refine ⟨k + 1, _, by omega, by go_num, (((((unhide HG).set _ _).set _ _).set _ _).set _ _ |>.set _ _).1, hs.1, fun j hj => ?_⟩
          rw [List.getElem?_set_ne (by omega), List.getElem?_set_ne (by omega), List.getElem?_set_ne (by omega), List.getElem?_set_ne (by omega), List.getElem?_set_ne (by omega)]
          exact (unhide HYS) j (by omega)
        case measure => simp [intOf]; omega
      · have HAPP : Hid (∀ ty, ∃ v' w', (Builtin.append_ #[25, 25] ty #[.slice (some ⟨g, 0, none⟩) n cap, .slice (some ⟨wr.heap.size, 0, none⟩) 1 1]).run Tryz.prog (wr.alloc (.cells #[.string ⟨#[]⟩, .string ⟨#[]⟩, .int .i64 0, .bool false, .slice none 0 0] 73)) = .ok v' w' ∧ SF B (fun t => t = 120 ∨ t = 73) w w') := fun ty => by
          obtain ⟨v', w', h1, h2⟩ := app_sf (B := B) (T := fun t => t = 120 ∨ t = 73) (wr.alloc (.cells #[.string ⟨#[]⟩, .string ⟨#[]⟩, .int .i64 0, .bool false, .slice none 0 0] 73)) 25 ty 73 i0 _ 5 72 Tryz.underlying25 hi hz0 hz1 hz2 rfl (by decide) (.slice (some ⟨g, 0, none⟩) n cap) n ⟨ys, (unhide HY).alloc _⟩ ⟨wr.heap.size, 0, none⟩ 1 [.string ⟨#[]⟩, .string ⟨#[]⟩, .int .i64 0, .bool false, .slice none 0 0] rfl (five_cell _ _ _ _ _ _ _) wnew_one hn (by decide) (by have := (unhide HSF).size; simp; omega) (.inr rfl)
          exact ⟨v', w', h1, ((unhide HSF).trans (SF.bel ((Below.refl _ _).alloc (Nat.le_refl _) _) (Nat.le_trans hB (unhide HSF).size))).trans h2⟩
        clear HY HYS
        go_wp2_with (first
          | (at_builtin; refine wpList_append_run _ (Z := fun _ w' => SF B (fun t => t = 120 ∨ t = 73) w w') rfl _ _ 25 25 rfl _ _ rfl rfl ((unhide HAPP) _) ?_)
          | go_in)
        intro v' w1 hsf
        have HSF1 := hide hsf
        clear hsf HAPP
        go_wp2
        go_end0
        exact ⟨rfl, unhide HSF1⟩
/-- lists of no great length -/
structure Lts (P : Pa) : Prop where
  props : P.props.length ≤ 32
  wills : P.wills.length ≤ 1
  wp : ∀ u ∈ P.wills, u.props.length ≤ 32
  user : P.user.length ≤ 1
  pass : P.pass.length ≤ 1
  subs : P.subs.length ≤ 16
  filters : P.filters.length ≤ 16
  codes : P.codes.length ≤ 16
theorem pk_block {w : World} {A : Nat} {q : Pkv} (h : w.heap[A]? = some (Obj.cells q.cells.toArray 30 (0, 0))) : Pk w A q := fun j hj => by
  refine ⟨?_, by unfold World.frozen?; rw [h]; simp⟩
  unfold World.cell?
  dsimp only
  rw [h]
  simpa using cells_get q j hj
theorem pk_ne : ¬ spT 30 := by unfold spT; decide
set_option maxHeartbeats 4000000 in
theorem packet_sp (B : Nat) (q : Pkv) (P : Pa) (w : World) (hB : B ≤ w.heap.size) (h : Mean w B q P) (hl : Lts P) : Calls Tryz.prog 35 #[q.val] w fun e w' => e = .returned (.tuple #[]) ∧ Below B w w' := by
  have HAL : Hid (SF B spT w (w.alloc (.cells q.cells.toArray 30))) := SF.bel ((Below.refl _ _).alloc (Nat.le_refl _) _) hB
  have HALb : Hid (Below w.heap.size w (w.alloc (.cells q.cells.toArray 30))) := (Below.refl _ _).alloc (Nat.le_refl _) _
  have HBX : Hid ((w.alloc (.cells q.cells.toArray 30)).heap[w.heap.size]? = some (Obj.cells q.cells.toArray 30 (0, 0))) := Array.getElem?_push_size
  have HM := hide h
  have HL := hide hl
  clear h hl
  go_enter Tryz.func35, Tryz.ntmps35
  go_upto_region 1 with fail
  change Code.wp _ _ _ _ (w.alloc (.cells q.cells.toArray 30))
  generalize w.alloc (.cells q.cells.toArray 30) = w0 at HAL HALb HBX ⊢
  have c0 := (pk_block (unhide HBX)).props
  have hB0 : B ≤ w0.heap.size := Nat.le_trans hB (unhide HAL).size
  have HC0 := hide (props_sp B _ P.props.length w0 hB0 (by have := (unhide HL).props; omega) (OwnE.sf ⟨_, (unhide HM).props⟩ (unhide HAL)))
  go_wp2_with fail
  refine (unhide HC0).mono ?_
  rintro e w1 ⟨rfl, hsf⟩
  have HS1 : Hid (SF B spT w w1) := (unhide HAL).trans (hsf.weak (fun _ h => .inl h))
  have HX1 : Hid (w1.heap[w.heap.size]? = some (Obj.cells q.cells.toArray 30 (0, 0))) := (hsf.weak (T' := spT) (fun _ h => .inl h)).same _ _ _ (unhide HBX) pk_ne
  have HS1p : Hid (SF B (fun t => t = 120) w w1) := (SF.bel (unhide HALb) hB).trans hsf
  clear hsf c0 HC0
  have c1 := (pk_block (unhide HX1)).wills
  have hB1 : B ≤ w1.heap.size := Nat.le_trans hB (unhide HS1).size
  have HC1 : Hid (Calls Tryz.prog 75 #[q.wills.val] w1 fun e w' => e = .returned (.tuple #[]) ∧ SF B (fun t => t = 120 ∨ t = 73) w1 w') := by
    obtain ⟨ws, k1, k2, k3⟩ := (unhide HM).wills
    have hwq : w1.ownsRow B 73 5 q.wills.val P.wills.length (wcs ws) := owns_sf k1 (unhide HS1p) will_ne
    refine wills_sp B _ _ ws w1 hB1 (by have := (unhide HL).wills; omega) hwq (fun i u hu => ?_)
    have hi : i < ws.length := (List.getElem?_eq_some_iff.1 hu).1
    obtain ⟨x, hx⟩ : ∃ x, P.wills[i]? = some x := ⟨_, List.getElem?_eq_getElem (by rw [← k2]; exact hi)⟩
    have hmem : x ∈ P.wills := List.mem_of_getElem? hx
    exact ⟨x.props.length, by have := (unhide HL).wp x hmem; omega, OwnE.sf ⟨_, (k3 i u x hu hx).2.2.2.2⟩ (unhide HS1)⟩
  go_wp2_with fail
  refine (unhide HC1).mono ?_
  rintro e w2 ⟨rfl, hsf⟩
  have HS2 : Hid (SF B spT w w2) := (unhide HS1).trans (hsf.weak (fun _ h => h.elim (fun h => .inl h) (fun h => .inr (.inl h))))
  have HX2 : Hid (w2.heap[w.heap.size]? = some (Obj.cells q.cells.toArray 30 (0, 0))) := (hsf.weak (T' := spT) (fun _ h => h.elim (fun h => .inl h) (fun h => .inr (.inl h)))).same _ _ _ (unhide HX1) pk_ne
  clear hsf c1 HC1
  have c2 := (pk_block (unhide HX2)).user
  have hB2 : B ≤ w2.heap.size := Nat.le_trans hB (unhide HS2).size
  have HC2 := hide (strings_sp B _ P.user.length w2 hB2 (by have := (unhide HL).user; omega) (OwnE.sf ⟨_, (unhide HM).user⟩ (unhide HS2)))
  go_wp2_with fail
  refine (unhide HC2).mono ?_
  rintro e w3 ⟨rfl, hsf⟩
  have HS3 : Hid (SF B spT w w3) := (unhide HS2).trans (hsf.weak (fun _ h => .inr (.inr (.inl h))))
  have HX3 : Hid (w3.heap[w.heap.size]? = some (Obj.cells q.cells.toArray 30 (0, 0))) := (hsf.weak (T' := spT) (fun _ h => .inr (.inr (.inl h)))).same _ _ _ (unhide HX2) pk_ne
  clear hsf c2 HC2
  have c3 := (pk_block (unhide HX3)).pass
  have hB3 : B ≤ w3.heap.size := Nat.le_trans hB (unhide HS3).size
  have HC3 := hide (strings_sp B _ P.pass.length w3 hB3 (by have := (unhide HL).pass; omega) (OwnE.sf ⟨_, (unhide HM).pass⟩ (unhide HS3)))
  go_wp2_with fail
  refine (unhide HC3).mono ?_
  rintro e w4 ⟨rfl, hsf⟩
  have HS4 : Hid (SF B spT w w4) := (unhide HS3).trans (hsf.weak (fun _ h => .inr (.inr (.inl h))))
  have HX4 : Hid (w4.heap[w.heap.size]? = some (Obj.cells q.cells.toArray 30 (0, 0))) := (hsf.weak (T' := spT) (fun _ h => .inr (.inr (.inl h)))).same _ _ _ (unhide HX3) pk_ne
  clear hsf c3 HC3
  have c4 := (pk_block (unhide HX4)).subs
  have hB4 : B ≤ w4.heap.size := Nat.le_trans hB (unhide HS4).size
  have HC4 := hide (subs_sp B _ P.subs.length w4 hB4 (by have := (unhide HL).subs; omega) (OwnE.sf ⟨_, (unhide HM).subs⟩ (unhide HS4)))
  go_wp2_with fail
  refine (unhide HC4).mono ?_
  rintro e w5 ⟨rfl, hsf⟩
  have HS5 : Hid (SF B spT w w5) := (unhide HS4).trans (hsf.weak (fun _ h => .inr (.inr (.inr (.inl h)))))
  have HX5 : Hid (w5.heap[w.heap.size]? = some (Obj.cells q.cells.toArray 30 (0, 0))) := (hsf.weak (T' := spT) (fun _ h => .inr (.inr (.inr (.inl h))))).same _ _ _ (unhide HX4) pk_ne
  clear hsf c4 HC4
  have c5 := (pk_block (unhide HX5)).filters
  have hB5 : B ≤ w5.heap.size := Nat.le_trans hB (unhide HS5).size
  have HC5 := hide (strings_sp B _ P.filters.length w5 hB5 (by have := (unhide HL).filters; omega) (OwnE.sf ⟨_, (unhide HM).filters⟩ (unhide HS5)))
  go_wp2_with fail
  refine (unhide HC5).mono ?_
  rintro e w6 ⟨rfl, hsf⟩
  have HS6 : Hid (SF B spT w w6) := (unhide HS5).trans (hsf.weak (fun _ h => .inr (.inr (.inl h))))
  have HX6 : Hid (w6.heap[w.heap.size]? = some (Obj.cells q.cells.toArray 30 (0, 0))) := (hsf.weak (T' := spT) (fun _ h => .inr (.inr (.inl h)))).same _ _ _ (unhide HX5) pk_ne
  clear hsf c5 HC5
  have c6 := (pk_block (unhide HX6)).codes
  have hB6 : B ≤ w6.heap.size := Nat.le_trans hB (unhide HS6).size
  have HC6 := hide (numbers_sp B _ P.codes.length w6 hB6 (by have := (unhide HL).codes; omega) (OwnE.sf ⟨_, (unhide HM).codes⟩ (unhide HS6)))
  go_wp2_with fail
  refine (unhide HC6).mono ?_
  rintro e w7 ⟨rfl, hsf⟩
  have HS7 : Hid (SF B spT w w7) := (unhide HS6).trans (hsf.weak (fun _ h => .inr (.inr (.inr (.inr h)))))
  have HX7 : Hid (w7.heap[w.heap.size]? = some (Obj.cells q.cells.toArray 30 (0, 0))) := (hsf.weak (T' := spT) (fun _ h => .inr (.inr (.inr (.inr h))))).same _ _ _ (unhide HX6) pk_ne
  clear hsf c6 HC6
  go_wp2
  go_end0
  exact ⟨rfl, (unhide HS7).below⟩
end Go.Proofs.YtpoeakillimibaaGreatDoor.K
/- Proved here: a packet that bytes tell has lists of no great length. Helpers that name no function. -/
namespace Go.Proofs.YtpoeakillimibaaGreatDoor.K
open Go.RowKit

theorem bind_inv {α β : Type} {f : List Int → Option (α × List Int)} {g : α → List Int → Option (β × List Int)} {l l' : List Int} {y : β} (h : bindR f g l = some (y, l')) : ∃ x l1, f l = some (x, l1) ∧ g x l1 = some (y, l') := by
  unfold bindR at h
  cases hf : f l with
  | none => rw [hf] at h; cases h
  | some r => rw [hf] at h; exact ⟨r.1, r.2, rfl, h⟩
theorem pure_inv {α : Type} {x y : α} {l l' : List Int} (h : pureR x l = some (y, l')) : y = x := by
  unfold pureR at h
  cases h
  rfl
theorem must_inv {b : Bool} {l l' : List Int} {u : Unit} (h : mustR b l = some (u, l')) : b = true := by
  unfold mustR at h
  cases b
  · cases h
  · rfl
theorem props_len {k : Int} {l l' : List Int} {x : List Pr} (h : props? k l = some (x, l')) : x.length ≤ 32 := by
  unfold props? at h
  split at h
  next h0 =>
    simp only [Option.some.injEq, Prod.mk.injEq] at h
    obtain ⟨rfl, _⟩ := h
    unfold plist
    rw [if_pos h0]
    cases hp : parse (pbd l) with
    | none => simp
    | some q =>
      show q.length ≤ 32
      unfold pgt at h0
      split at h0
      · contradiction
      · split at h0
        · cases h0
        · rw [rdn_some k _ q hp] at h0
          unfold chkP at h0
          split at h0
          · split at h0
            · assumption
            · cases h0
          · cases h0
  next => cases h
theorem reason_len {k : Int} {l l' : List Int} {r : Int × List Pr} (h : reason? k l = some (r, l')) : r.2.length ≤ 32 := by
  unfold reason? at h
  cases l with
  | nil => cases h; simp
  | cons c t =>
    simp only at h
    split at h
    · cases h; simp
    · cases hp : props? k t with
      | none => rw [hp] at h; cases h
      | some q =>
        rw [hp] at h
        simp only [Option.map_some, Option.some.injEq, Prod.mk.injEq] at h
        obtain ⟨rfl, _⟩ := h
        obtain ⟨q1, q2⟩ := q
        exact props_len hp
theorem list_len {α : Type} {f : List Int → Option (α × List Int)} {l l' : List Int} {d : List α} (h : list? f l = some (d, l')) : d.length ≤ 16 := by
  unfold list? at h
  obtain ⟨x, l1, _, h⟩ := bind_inv h
  obtain ⟨_, l2, h1, h⟩ := bind_inv h
  have e := must_inv h1
  obtain rfl := pure_inv h
  unfold mc at e
  simp only [Bool.and_eq_true, decide_eq_true_eq] at e
  omega
theorem opt_len {α : Type} (o : Option α) : o.toList.length ≤ 1 := by cases o <;> simp
theorem body_lts {k : Int} {d : Bool} {q : Int} {r : Bool} {l l' : List Int} {P : Pa} (h : body? (pa0 k d q r) l = some (P, l')) : Lts P := by
  unfold body? at h
  by_cases h20 : (pa0 k d q r).kind = 1
  · rw [if_pos h20] at h
    obtain ⟨n, l1, h1, h⟩ := bind_inv h
    obtain rfl := pure_inv h
    unfold connect? at h1
    obtain ⟨_, _, _, h1⟩ := bind_inv h1
    obtain ⟨_, _, _, h1⟩ := bind_inv h1
    obtain ⟨_, _, _, h1⟩ := bind_inv h1
    obtain ⟨_, _, _, h1⟩ := bind_inv h1
    obtain ⟨x, _, _, h1⟩ := bind_inv h1
    obtain ⟨kk, _, _, h1⟩ := bind_inv h1
    obtain ⟨pr, _, hpr, h1⟩ := bind_inv h1
    obtain ⟨c, _, _, h1⟩ := bind_inv h1
    obtain ⟨wl, _, hwl, h1⟩ := bind_inv h1
    obtain ⟨us, _, _, h1⟩ := bind_inv h1
    obtain ⟨pa, _, _, h1⟩ := bind_inv h1
    obtain rfl := pure_inv h1
    refine ⟨props_len hpr, ?_, ?_, opt_len _, opt_len _, by simp [ofCn, pa0], by simp [ofCn, pa0], by simp [ofCn, pa0]⟩
    · show (wlOf x wl).length ≤ 1
      unfold wlOf
      split <;> simp
    · intro u hu
      replace hu : u ∈ wlOf x wl := hu
      unfold will? at hwl
      by_cases h4 : btest x 4 = true
      · rw [if_pos h4] at hwl
        obtain ⟨q2, _, hq, hwl⟩ := bind_inv hwl
        obtain ⟨t, _, _, hwl⟩ := bind_inv hwl
        obtain ⟨y, _, _, hwl⟩ := bind_inv hwl
        obtain rfl := pure_inv hwl
        simp [wlOf] at hu
        subst hu
        exact props_len hq
      · rw [if_neg h4] at hwl
        obtain rfl := pure_inv hwl
        simp [wlOf] at hu
  · rw [if_neg h20] at h
    by_cases h21 : (pa0 k d q r).kind = 2
    · rw [if_pos h21] at h
      obtain ⟨f, _, _, h⟩ := bind_inv h
      obtain ⟨_, _, _, h⟩ := bind_inv h
      obtain ⟨c, _, _, h⟩ := bind_inv h
      obtain ⟨x, _, hx, h⟩ := bind_inv h
      obtain rfl := pure_inv h
      exact ⟨props_len hx, by simp [pa0], by simp [pa0], by simp [pa0], by simp [pa0], by simp [pa0], by simp [pa0], by simp [pa0]⟩
    · rw [if_neg h21] at h
      by_cases h22 : (pa0 k d q r).kind = 3
      · rw [if_pos h22] at h
        obtain ⟨r', _, h1, h⟩ := bind_inv h
        obtain rfl := pure_inv h
        unfold publish? at h1
        obtain ⟨t, _, _, h1⟩ := bind_inv h1
        obtain ⟨i, _, _, h1⟩ := bind_inv h1
        obtain ⟨x, _, hx, h1⟩ := bind_inv h1
        obtain ⟨y, _, _, h1⟩ := bind_inv h1
        obtain rfl := pure_inv h1
        exact ⟨props_len hx, by simp [pa0], by simp [pa0], by simp [pa0], by simp [pa0], by simp [pa0], by simp [pa0], by simp [pa0]⟩
      · rw [if_neg h22] at h
        by_cases h23 : (pa0 k d q r).kind = 8
        · rw [if_pos h23] at h
          obtain ⟨i, _, _, h⟩ := bind_inv h
          obtain ⟨x, _, hx, h⟩ := bind_inv h
          obtain ⟨dd, _, hd, h⟩ := bind_inv h
          obtain rfl := pure_inv h
          exact ⟨props_len hx, by simp [pa0], by simp [pa0], by simp [pa0], by simp [pa0], list_len hd, by simp [pa0], by simp [pa0]⟩
        · rw [if_neg h23] at h
          by_cases h24 : (pa0 k d q r).kind = 10
          · rw [if_pos h24] at h
            obtain ⟨i, _, _, h⟩ := bind_inv h
            obtain ⟨x, _, hx, h⟩ := bind_inv h
            obtain ⟨dd, _, hd, h⟩ := bind_inv h
            obtain rfl := pure_inv h
            exact ⟨props_len hx, by simp [pa0], by simp [pa0], by simp [pa0], by simp [pa0], by simp [pa0], list_len hd, by simp [pa0]⟩
          · rw [if_neg h24] at h
            by_cases h25 : (pa0 k d q r).kind = 9 ∨ (pa0 k d q r).kind = 11
            · rw [if_pos h25] at h
              obtain ⟨i, _, _, h⟩ := bind_inv h
              obtain ⟨x, _, hx, h⟩ := bind_inv h
              obtain ⟨dd, _, hd, h⟩ := bind_inv h
              obtain rfl := pure_inv h
              exact ⟨props_len hx, by simp [pa0], by simp [pa0], by simp [pa0], by simp [pa0], by simp [pa0], by simp [pa0], list_len hd⟩
            · rw [if_neg h25] at h
              by_cases h26 : (pa0 k d q r).kind = 4 ∨ (pa0 k d q r).kind = 5 ∨ (pa0 k d q r).kind = 6 ∨ (pa0 k d q r).kind = 7
              · rw [if_pos h26] at h
                obtain ⟨i, _, _, h⟩ := bind_inv h
                obtain ⟨r', _, hr, h⟩ := bind_inv h
                obtain rfl := pure_inv h
                exact ⟨reason_len hr, by simp [pa0], by simp [pa0], by simp [pa0], by simp [pa0], by simp [pa0], by simp [pa0], by simp [pa0]⟩
              · rw [if_neg h26] at h
                by_cases h27 : (pa0 k d q r).kind = 14 ∨ (pa0 k d q r).kind = 15
                · rw [if_pos h27] at h
                  obtain ⟨r', _, hr, h⟩ := bind_inv h
                  obtain rfl := pure_inv h
                  exact ⟨reason_len hr, by simp [pa0], by simp [pa0], by simp [pa0], by simp [pa0], by simp [pa0], by simp [pa0], by simp [pa0]⟩
                · rw [if_neg h27] at h
                  obtain rfl := pure_inv h
                  exact ⟨by simp [pa0], by simp [pa0], by simp [pa0], by simp [pa0], by simp [pa0], by simp [pa0], by simp [pa0], by simp [pa0]⟩
theorem dbody_lts {l l' : List Int} {P : Pa} (h : dbody l = some (P, l')) : Lts P := by
  unfold dbody packet? at h
  obtain ⟨P', _, h1, h⟩ := bind_inv h
  obtain ⟨_, _, _, h⟩ := bind_inv h
  obtain rfl := pure_inv h
  unfold bpa at h1
  split at h1
  · exact body_lts h1
  · exact body_lts h1
end Go.Proofs.YtpoeakillimibaaGreatDoor.K
/- Proved here: the page's reader (dovecoteref4): byte, left, took, text, bin, more, pair as steps of a plain reader. Helper contracts. -/
namespace Go.Proofs.YtpoeakillimibaaGreatDoor.K
open Go.RowKit
set_option maxRecDepth 100000

/-- a world, and how many bytes a reader has in all -/
structure GW extends World where
  N : Nat
instance : Coe GW World := ⟨GW.toWorld⟩
/-- the page's reader at the block R: its bytes, how many are read, bad -/
def RPc (w : World) (R : Nat) (ao : Option Addr) (n cap k : Nat) (bad : Bool) : Prop :=
  w.cell? ⟨R, 0, none⟩ = some (.slice ao n cap) ∧ (w.cell? ⟨R, 1, none⟩ = some (.int .i64 k) ∧ w.frozen? ⟨R, 1, none⟩ = false) ∧ w.cell? ⟨R, 2, none⟩ = some (.bool bad) ∧ w.frozen? ⟨R, 2, none⟩ = false
/-- what it has: the bytes that are left, or none: it is bad -/
def RP (w0 : GW) (w : World) (R : Nat) (st : Option (List Int)) : Prop :=
  ∃ ao n cap k bad L, RPc w R ao n cap k bad ∧ Byt w0 (.slice ao n cap) L ∧ k ≤ n ∧ (n ≤ 140737488355328 ∧ Hid (n = w0.N)) ∧ Below w0.heap.size w0 w ∧ w0.heap.size ≤ R ∧ st = if bad then none else some (L.drop k)
theorem RPc.setBad {w : World} {R : Nat} {ao : Option Addr} {n cap k : Nat} {bad : Bool} (h : RPc w R ao n cap k bad) (b : Bool) : RPc (w.setCell ⟨R, 2, none⟩ (.bool b)) R ao n cap k b := by
  obtain ⟨h1, ⟨h2, h3⟩, h4, h5⟩ := h
  exact ⟨(World.cell?_setCell_other _ _ _ _ (by intro e; simp at e)).trans h1, ⟨(World.cell?_setCell_other _ _ _ _ (by intro e; simp at e)).trans h2, by simpa using h3⟩, World.cell?_setCell_same _ _ _ h4, by simpa using h5⟩
theorem RPc.setAt {w : World} {R : Nat} {ao : Option Addr} {n cap k : Nat} {bad : Bool} (h : RPc w R ao n cap k bad) (j : Nat) : RPc (w.setCell ⟨R, 1, none⟩ (.int .i64 j)) R ao n cap j bad := by
  obtain ⟨h1, ⟨h2, h3⟩, h4, h5⟩ := h
  exact ⟨(World.cell?_setCell_other _ _ _ _ (by intro e; simp at e)).trans h1, ⟨World.cell?_setCell_same _ _ _ h2, by simpa using h3⟩, (World.cell?_setCell_other _ _ _ _ (by intro e; simp at e)).trans h4, by simpa using h5⟩
theorem RPc.lt {w : World} {R : Nat} {ao : Option Addr} {n cap k : Nat} {bad : Bool} (h : RPc w R ao n cap k bad) : R < w.heap.size := cell_lt h.1
theorem RPc.far {w w' : World} {R : Nat} {ao : Option Addr} {n cap k : Nat} {bad : Bool} (h : RPc w R ao n cap k bad) (hb : w'.heap[R]? = w.heap[R]?) : RPc w' R ao n cap k bad := by
  obtain ⟨h1, ⟨h2, h3⟩, h4, h5⟩ := h
  exact ⟨(World.cell?_of_block (a := ⟨R, 0, none⟩) hb).trans h1, ⟨(World.cell?_of_block (a := ⟨R, 1, none⟩) hb).trans h2, (World.frozen?_of_block (a := ⟨R, 1, none⟩) hb).trans h3⟩, (World.cell?_of_block (a := ⟨R, 2, none⟩) hb).trans h4, (World.frozen?_of_block (a := ⟨R, 2, none⟩) hb).trans h5⟩
theorem RP.lt {w0 : GW} {w : World} {R : Nat} {st : Option (List Int)} (h : RP w0 w R st) : R < w.heap.size := by
  obtain ⟨_, _, _, _, _, _, h, _⟩ := h
  exact h.lt
theorem RP.below {w0 : GW} {w w' : World} {R : Nat} {st : Option (List Int)} (h : RP w0 w R st) (hb : Below w.heap.size w w') : RP w0 w' R st := by
  obtain ⟨ao, n, cap, k, bad, L, hc, hy, hk, hn, hw, hR, hst⟩ := h
  exact ⟨ao, n, cap, k, bad, L, hc.far (hb.block R hc.lt), hy, hk, hn, hw.trans (hb.mono hw.size), hR, hst⟩
theorem byt_len {w : World} {ao : Option Addr} {n cap : Nat} {L : List Int} (h : Byt w (.slice ao n cap) L) : L.length = n ∧ n ≤ cap ∧ cap ≤ maxLen := by
  obtain ⟨ao', cap', e, k1, k2⟩ := h.form
  simp only [Value.slice.injEq] at e
  obtain ⟨_, rfl, rfl⟩ := e
  exact ⟨rfl, k1, k2⟩
theorem byt_at {w : World} {ao : Option Addr} {n cap : Nat} {L : List Int} (h : Byt w (.slice ao n cap) L) (k : Nat) (hk : k < n) : ∃ b off, ao = some ⟨b, off, none⟩ ∧ w.cell? ⟨b, off + k, none⟩ = some (.int .u8 (L.getD k 0)) := by
  have hl := (byt_len h).1
  obtain ⟨ao', cap', e, _, _, hcase⟩ := h
  simp only [Value.slice.injEq] at e
  obtain ⟨rfl, _, rfl⟩ := e
  rcases hcase with rfl | ⟨b, off, e2, hc⟩
  · simp at hl; omega
  · exact ⟨b, off, e2, hc k (by omega)⟩
/-- a step of the page's reader that tells a number -/
def PgI (w0 : GW) (R hi : Nat) (f : List Int → Option (Int × List Int)) (st : Option (List Int)) (w : World) (e : Ending) (w' : World) : Prop :=
  ∃ x st', e = .returned (.int .i64 x) ∧ (0 ≤ x ∧ x ≤ hi) ∧ Stp f st x st' ∧ RP w0 w' R st' ∧ BX R isAny w w'
theorem drop_cons (L : List Int) (k : Nat) (hk : k < L.length) : L.drop k = L.getD k 0 :: L.drop (k + 1) := by
  rw [List.drop_eq_getElem_cons hk, List.getD_eq_getElem?_getD, List.getElem?_eq_getElem hk]
  rfl
set_option maxHeartbeats 2000000 in
theorem byte_pg (R : Nat) (st : Option (List Int)) (w0 : GW) (w : World) (h : RP w0 w R st) : Calls Tryz.prog 127 #[.pointer (some ⟨R, 0, none⟩)] w (PgI w0 R 255 one? st w) := by
  obtain ⟨ao, n, cap, k, bad, L, hc, hy, hk, hn, hw, hR, hst⟩ := h
  obtain ⟨hl, hc1, hc2⟩ := byt_len hy
  unfold maxLen at hc2
  have HC := hide hc
  have HY := hide hy
  have HW := hide hw
  have HST := hide hst
  have HD := hide (bel_drew w)
  have hlt := hc.lt
  obtain ⟨h0, ⟨h1, f1⟩, h2, f2⟩ := hc
  have hr := hy.range
  have hat := byt_at hy
  have HL := hide hl
  clear hy hw hst hl
  cases bad
  · by_cases hkn : k = n
    · subst hkn
      clear hr hat
      have hkk : ((k : Int) == (k : Int)) = true := by simp
      go_enter Tryz.func127, Tryz.ntmps127
      go_wp2_with fail
      refine wp_region_noPanic ?_
      refine wp_region_held_drew (S := (fun w' => w'.cell? ⟨R, 0, none⟩ = some (.slice ao k cap) ∧ w'.cell? ⟨R, 1, none⟩ = some (.int .i64 (k : Nat)) ∧ w'.cell? ⟨R, 2, none⟩ = some (.bool false))) (by kernel_rfl) ⟨by simpa using h0, by simpa using h1, by simpa using h2⟩ (fun hHeld => ?_)
      refine rtk 0 (h := ?_)
      refine rtk 1 (h := ?_)
      refine rtk 2 (h := ?_)
      refine rtk 3 (h := ?_)
      refine rtk 4 (h := ?_)
      refine rtk 5 (h := ?_)
      refine rtk 6 (h := ?_)
      refine rtk 7 (h := ?_)
      refine rtk 8 (h := ?_)
      refine rtk 9 (h := ?_)
      refine rtk 10 (h := ?_)
      refine rtk 11 (h := ?_)
      refine rtk 12 (h := ?_)
      refine rtk 13 (h := ?_)
      refine rtk 14 (h := ?_)
      refine rtk 15 (h := ?_)
      refine wpAnyH_done (by kernel_rfl) ?_ _
      refine NoPanic.normal ?_
      go_wp2
      go_ret
      have hx : BX R isAny w (w.drew.setCell ⟨R, 2, none⟩ (.bool true)) := (BX.of_below (unhide HD) hlt).set 2 _ trivial
      refine ⟨0, none, rfl, by omega, ?_, ⟨ao, k, cap, k, true, L, ((unhide HC).far rfl).setBad true, unhide HY, Nat.le_refl _, hn, hx.keep (unhide HW) hR, hR, rfl⟩, hx⟩
      have est : st = some (L.drop k) := unhide HST
      rw [est]
      have e : L.drop k = [] := List.drop_of_length_le (by rw [unhide HL]; exact Nat.le_refl _)
      rw [e]
      rfl
    · have hkl : k < n := by omega
      obtain ⟨b, off, rfl, hcell⟩ := hat k hkl
      have hcw : w.cell? ⟨b, off + k, none⟩ = some (.int .u8 (L.getD k 0)) := ((unhide HW).cell (p := ⟨b, off + k, none⟩) (cell_lt hcell)).trans hcell
      have hbR : b ≠ R := fun e => by have := cell_lt hcell; simp only at this; omega
      have hv := hr k
      have HDC := hide (drop_cons L k (by rw [unhide HL]; exact hkl))
      have hkk : ((k : Int) == (n : Int)) = false := by simp; omega
      have hwk : IntKind.i64.wrap (k : Int) = k := by rw [IntKind.wrap_i64]; omega
      clear hr hat hcell
      generalize L.getD k 0 = v at hcw hv HDC
      have hwv : IntKind.i64.wrap v = v := by rw [IntKind.wrap_i64]; omega
      go_enter Tryz.func127, Tryz.ntmps127
      go_wp2_with fail
      refine wp_region_noPanic ?_
      refine wp_region_held_drew (S := (fun w' => w'.cell? ⟨R, 0, none⟩ = some (.slice (some ⟨b, off, none⟩) n cap) ∧ w'.cell? ⟨R, 1, none⟩ = some (.int .i64 (k : Nat)) ∧ w'.cell? ⟨R, 2, none⟩ = some (.bool false))) (by kernel_rfl) ⟨by simpa using h0, by simpa using h1, by simpa using h2⟩ (fun hHeld => ?_)
      refine rtk 0 (h := ?_)
      refine rtk 1 (h := ?_)
      refine rtk 2 (h := ?_)
      refine rtk 3 (h := ?_)
      refine rtk 4 (h := ?_)
      refine rtk 5 (h := ?_)
      refine rtk 6 (h := ?_)
      refine rtk 7 (h := ?_)
      refine rtk 8 (h := ?_)
      refine rtk 9 (h := ?_)
      refine rtk 10 (h := ?_)
      refine rtk 11 (h := ?_)
      refine rtk 12 (h := ?_)
      refine rtk 13 (h := ?_)
      refine rtk 14 (h := ?_)
      refine rtk 15 (h := ?_)
      refine wpAnyH_done (by kernel_rfl) ?_ _
      refine NoPanic.normal ?_
      go_wp2_with fail
      refine wp_region_noPanic ?_
      refine wp_region_held_drew (S := (fun w' => w'.cell? ⟨R, 0, none⟩ = some (.slice (some ⟨b, off, none⟩) n cap) ∧ w'.cell? ⟨R, 1, none⟩ = some (.int .i64 (k + 1 : Nat)) ∧ w'.cell? ⟨b, off + k, none⟩ = some (.int .u8 v))) (by kernel_rfl) ⟨by simp (maxDischargeDepth := 12) [cell_set, h0], by simp (maxDischargeDepth := 12) [cell_set, h1], by simp (maxDischargeDepth := 12) [cell_set, hcw]⟩ (fun hHeld => ?_)
      refine rtk 0 (h := ?_)
      refine rtk 1 (h := ?_)
      refine rtk 2 (h := ?_)
      refine rtk 3 (h := ?_)
      refine rtk 4 (h := ?_)
      refine rtk 5 (h := ?_)
      refine rtk 6 (h := ?_)
      refine rtk 7 (h := ?_)
      refine rtk 8 (h := ?_)
      refine rtk 9 (h := ?_)
      refine rtk 10 (h := ?_)
      refine rtk 11 (h := ?_)
      refine rcl 12 (h := fun K hK => ?_)
      go_simp
      refine hK.out _ _ ⟨by simp (maxDischargeDepth := 12) [cell_set, h0], by simp (maxDischargeDepth := 12) [cell_set, h1], by simp (maxDischargeDepth := 12) [cell_set, hcw]⟩ (fun hHeld => ?_)
      clear hK K
      refine wpAnyH_done (by kernel_rfl) ?_ _
      refine NoPanic.normal ?_
      go_wp2
      go_ret
      have hx : BX R isAny w ((w.drew.setCell ⟨R, 1, none⟩ (.int .i64 (k + 1 : Nat))).drew) := ((BX.of_below (unhide HD) hlt).set 1 _ trivial).trans (BX.of_below (bel_drew _) (by simpa [World.setCell] using hlt))
      have HC2 := ((((unhide HC).far (w' := w.drew) rfl).setAt (k + 1)).far (w' := (w.drew.setCell ⟨R, 1, none⟩ (.int .i64 (k + 1 : Nat))).drew) rfl)
      refine ⟨v, some (L.drop (k + 1)), rfl, hv, ?_, ⟨_, n, cap, k + 1, false, L, HC2, unhide HY, by omega, hn, hx.keep (unhide HW) hR, hR, rfl⟩, hx⟩
      have est : st = some (L.drop k) := unhide HST
      rw [est, unhide HDC]
      exact ⟨rfl, rfl⟩
  · go_enter Tryz.func127, Tryz.ntmps127
    go_wp2_with fail
    refine wp_region_noPanic ?_
    refine wp_region_held_drew (S := (fun w' => w'.cell? ⟨R, 0, none⟩ = some (.slice ao n cap) ∧ w'.cell? ⟨R, 1, none⟩ = some (.int .i64 (k : Nat)) ∧ w'.cell? ⟨R, 2, none⟩ = some (.bool true))) (by kernel_rfl) ⟨by simpa using h0, by simpa using h1, by simpa using h2⟩ (fun hHeld => ?_)
    refine rtk 0 (h := ?_)
    refine rtk 1 (h := ?_)
    refine rtk 2 (h := ?_)
    refine rtk 3 (h := ?_)
    refine rtk 4 (h := ?_)
    refine rsk 5 (h := ?_)
    refine rsk 6 (h := ?_)
    refine rsk 7 (h := ?_)
    refine rsk 8 (h := ?_)
    refine rsk 9 (h := ?_)
    refine rsk 10 (h := ?_)
    refine rsk 11 (h := ?_)
    refine rsk 12 (h := ?_)
    refine rsk 13 (h := ?_)
    refine rsk 14 (h := ?_)
    refine rtk 15 (h := ?_)
    refine wpAnyH_done (by kernel_rfl) ?_ _
    refine NoPanic.normal ?_
    go_wp2
    go_ret
    have hx : BX R isAny w (w.drew.setCell ⟨R, 2, none⟩ (.bool true)) := (BX.of_below (unhide HD) hlt).set 2 _ trivial
    exact ⟨0, none, rfl, by omega, (by have est : st = none := unhide HST; rw [est]; rfl), ⟨ao, n, cap, k, true, L, ((unhide HC).far rfl).setBad true, unhide HY, hk, hn, hx.keep (unhide HW) hR, hR, rfl⟩, hx⟩
/-- what is left, as bytes -/
theorem left_pg (R : Nat) (st : Option (List Int)) (w0 : GW) (w : World) (h : RP w0 w R st) : Calls Tryz.prog 131 #[.pointer (some ⟨R, 0, none⟩)] w fun e w' => ∃ v l, e = .returned v ∧ Hid (Byt w0 v l) ∧ (∀ l', st = some l' → l' = l) ∧ (st = none → l = []) ∧ Below w.heap.size w w' := by
  obtain ⟨ao, n, cap, k, bad, L, hc, hy, hk, hn, hw, hR, hst⟩ := h
  obtain ⟨hl, hc1, hc2⟩ := byt_len hy
  unfold maxLen at hc2
  obtain ⟨h0, ⟨h1, f1⟩, h2, f2⟩ := hc
  have HST := hide hst
  have HD0 := hide (bel_drew w)
  clear hw hst
  cases bad
  · have est : Hid (st = some (L.drop k)) := unhide HST
    by_cases hn0 : n = 0
    · subst hn0
      obtain rfl : k = 0 := by omega
      obtain rfl : L = [] := List.length_eq_zero_iff.1 hl
      have HY := hide hy
      clear hy hl HST
      go_enter Tryz.func131, Tryz.ntmps131
      go_wp2_with fail
      refine wp_region_noPanic ?_
      refine wp_region_held_drew (S := (fun w' => w'.cell? ⟨R, 0, none⟩ = some (.slice ao 0 cap) ∧ w'.cell? ⟨R, 1, none⟩ = some (.int .i64 (0 : Nat)))) (by kernel_rfl) ⟨by simpa using h0, by simpa using h1⟩ (fun hHeld => ?_)
      refine rtk 0 (h := ?_)
      refine rtk 1 (h := ?_)
      refine rtk 2 (h := ?_)
      refine rtk 3 (h := ?_)
      refine rtk 4 (h := ?_)
      refine rtk 5 (h := ?_)
      refine rtk 6 (h := ?_)
      refine rtk 7 (h := ?_)
      refine rtk 8 (h := ?_)
      refine rcl 9 (h := fun K hK => ?_)
      go_simp
      refine hK.out _ _ ⟨by simpa using h0, by simpa using h1⟩ (fun hHeld => ?_)
      clear hK K
      refine wpAnyH_done (by kernel_rfl) ?_ _
      refine NoPanic.normal ?_
      go_wp2
      go_ret
      exact ⟨_, [], rfl, HY, (fun l' e => (Option.some.inj ((unhide est).symm.trans e)).symm), (fun e => absurd ((unhide est).symm.trans e) (by simp)), unhide HD0⟩
    · obtain ⟨b, off, rfl, _⟩ := byt_at hy 0 (by omega)
      have HDR := hide (hy.drop' k hk)
      clear hy hl HST
      by_cases hcap : cap = k
      · have e1 : k = cap := hcap.symm
        clear hcap
        subst e1
        obtain rfl : n = k := by omega
        have HD : Hid (Byt w0 (.slice (some ⟨b, off, none⟩) 0 0) (L.drop n)) := by
          show Byt _ _ _
          have q := unhide HDR
          rw [if_pos rfl, Nat.sub_self] at q
          exact q
        clear HDR
        go_enter Tryz.func131, Tryz.ntmps131
        go_wp2_with fail
        refine wp_region_noPanic ?_
        refine wp_region_held_drew (S := (fun w' => w'.cell? ⟨R, 0, none⟩ = some (.slice (some ⟨b, off, none⟩) n n) ∧ w'.cell? ⟨R, 1, none⟩ = some (.int .i64 (n : Nat)))) (by kernel_rfl) ⟨by simpa using h0, by simpa using h1⟩ (fun hHeld => ?_)
        refine rtk 0 (h := ?_)
        refine rtk 1 (h := ?_)
        refine rtk 2 (h := ?_)
        refine rtk 3 (h := ?_)
        refine rtk 4 (h := ?_)
        refine rtk 5 (h := ?_)
        refine rtk 6 (h := ?_)
        refine rtk 7 (h := ?_)
        refine rtk 8 (h := ?_)
        refine rcl 9 (h := fun K hK => ?_)
        go_simp
        refine hK.out _ _ ⟨by simpa using h0, by simpa using h1⟩ (fun hHeld => ?_)
        clear hK K
        refine wpAnyH_done (by kernel_rfl) ?_ _
        refine NoPanic.normal ?_
        go_wp2
        go_ret
        exact ⟨_, _, rfl, HD, (fun l' e => (Option.some.inj ((unhide est).symm.trans e)).symm), (fun e => absurd ((unhide est).symm.trans e) (by simp)), unhide HD0⟩
      · have HD : Hid (Byt w0 (.slice (some ⟨b, off + k, none⟩) (n - k) (cap - k)) (L.drop k)) := by
          show Byt _ _ _
          have q := unhide HDR
          rw [if_neg hcap] at q
          exact q
        clear HDR
        go_enter Tryz.func131, Tryz.ntmps131
        go_wp2_with fail
        refine wp_region_noPanic ?_
        refine wp_region_held_drew (S := (fun w' => w'.cell? ⟨R, 0, none⟩ = some (.slice (some ⟨b, off, none⟩) n cap) ∧ w'.cell? ⟨R, 1, none⟩ = some (.int .i64 (k : Nat)))) (by kernel_rfl) ⟨by simpa using h0, by simpa using h1⟩ (fun hHeld => ?_)
        refine rtk 0 (h := ?_)
        refine rtk 1 (h := ?_)
        refine rtk 2 (h := ?_)
        refine rtk 3 (h := ?_)
        refine rtk 4 (h := ?_)
        refine rtk 5 (h := ?_)
        refine rtk 6 (h := ?_)
        refine rtk 7 (h := ?_)
        refine rtk 8 (h := ?_)
        refine rcl 9 (h := fun K hK => ?_)
        go_simp
        refine hK.out _ _ ⟨by simpa using h0, by simpa using h1⟩ (fun hHeld => ?_)
        clear hK K
        refine wpAnyH_done (by kernel_rfl) ?_ _
        refine NoPanic.normal ?_
        go_wp2
        go_ret
        exact ⟨_, _, rfl, HD, (fun l' e => (Option.some.inj ((unhide est).symm.trans e)).symm), (fun e => absurd ((unhide est).symm.trans e) (by simp)), unhide HD0⟩
  · have est : Hid (st = none) := unhide HST
    clear hy hl HST
    go_enter Tryz.func131, Tryz.ntmps131
    go_wp2
    go_ret
    exact ⟨_, [], rfl, (⟨none, 0, rfl, ⟨by simp, by simp⟩, by intro j; simp, .inl rfl⟩ : Byt w0 (.slice none 0 0) []), (fun l' e => by rw [unhide est] at e; cases e), (fun _ => rfl), Below.refl _ _⟩
/-- behind a part that was read -/
theorem took_pg (R : Nat) (st : Option (List Int)) (n : Nat) (m : Int) (w0 : GW) (w : World) (h : RP w0 w R st) (hn : ∀ l, st = some l → n ≤ l.length) : Calls Tryz.prog 171 #[.pointer (some ⟨R, 0, none⟩), .int .i64 n, .int .i64 m] w fun e w' => e = .returned (.tuple #[]) ∧ RP w0 w' R (if m = 0 then st.map (fun l => l.drop n) else none) ∧ BX R isAny w w' := by
  obtain ⟨ao, N, cap, k, bad, L, hc, hy, hk, hN, hw, hR, hst⟩ := h
  obtain ⟨hl, hc1, hc2⟩ := byt_len hy
  have hlt := hc.lt
  have HC := hide hc
  have HY := hide hy
  have HW := hide hw
  obtain ⟨h0, ⟨h1, f1⟩, h2, f2⟩ := hc
  cases bad
  · have est : st = some (L.drop k) := hst
    have hnk : k + n ≤ N := by
      have := hn _ est
      rw [List.length_drop, hl] at this
      omega
    subst est
    clear hn hy hw hst
    by_cases hm : m = 0
    · subst hm
      have HL := hide hl
      clear hl
      go_enter Tryz.func171, Tryz.ntmps171
      go_wp2
      go_end0
      have hx : BX R isAny w (w.setCell ⟨R, 1, none⟩ (.int .i64 ((k + n : Nat) : Int))) := (BX.refl _ _ _).set 1 _ trivial
      refine ⟨rfl, ⟨ao, N, cap, k + n, false, L, (unhide HC).setAt (k + n), unhide HY, hnk, hN, hx.keep (unhide HW) hR, hR, ?_⟩, hx⟩
      simp
    · have hm2 : (m != 0) = true := by simpa using hm
      go_enter Tryz.func171, Tryz.ntmps171
      go_wp2
      go_end0
      have hx : BX R isAny w (w.setCell ⟨R, 2, none⟩ (.bool true)) := (BX.refl _ _ _).set 2 _ trivial
      refine ⟨rfl, ⟨ao, N, cap, k, true, L, (unhide HC).setBad true, unhide HY, hk, hN, hx.keep (unhide HW) hR, hR, ?_⟩, hx⟩
      rfl
  · have est : st = none := hst
    subst est
    clear hn hy hw hst
    by_cases hm : m = 0
    · subst hm
      go_enter Tryz.func171, Tryz.ntmps171
      go_wp2
      go_end0
      exact ⟨rfl, ⟨ao, N, cap, k, true, L, unhide HC, unhide HY, hk, hN, unhide HW, hR, rfl⟩, BX.refl _ _ _⟩
    · have hm2 : (m != 0) = true := by simpa using hm
      go_enter Tryz.func171, Tryz.ntmps171
      go_wp2
      go_end0
      have hx : BX R isAny w (w.setCell ⟨R, 2, none⟩ (.bool true)) := (BX.refl _ _ _).set 2 _ trivial
      refine ⟨rfl, ⟨ao, N, cap, k, true, L, (unhide HC).setBad true, unhide HY, hk, hN, hx.keep (unhide HW) hR, hR, ?_⟩, hx⟩
      rfl
def PgS (w0 : GW) (R : Nat) (f : List Int → Option (ByteArray × List Int)) (st : Option (List Int)) (w : World) (e : Ending) (w' : World) : Prop :=
  ∃ x st', e = .returned (.string x) ∧ Stp f st x st' ∧ RP w0 w' R st' ∧ BX R isAny w w'
set_option maxHeartbeats 1000000 in
theorem text_pg (R : Nat) (st : Option (List Int)) (w0 : GW) (w : World) (h : RP w0 w R st) : Calls Tryz.prog 129 #[.pointer (some ⟨R, 0, none⟩)] w (PgS w0 R text? st w) := by
  have hlt := h.lt
  have hR0 : w0.heap.size ≤ R := by obtain ⟨_, _, _, _, _, _, _, _, _, _, _, h, _⟩ := h; exact h
  have hw0 : Below w0.heap.size w0 w := by obtain ⟨_, _, _, _, _, _, _, _, _, _, h, _⟩ := h; exact h
  have HS := hide h
  have HW0 := hide hw0
  clear h hw0
  go_enter Tryz.func129, Tryz.ntmps129
  go_wp2_with fail
  refine (left_pg R st w0 w (unhide HS)).mono ?_
  rintro e w1 ⟨v, l, rfl, hv, he1, he2, hb1⟩
  have HW1 : Hid (Below w0.heap.size w0 w1) := (unhide HW0).trans (hb1.mono (unhide HW0).size)
  obtain ⟨n, hN, hn, _⟩ := gt_len l (unhide hv).range
  have HG := hide (rget_any v l w1 ((unhide hv).below (unhide HW1)))
  rw [hN] at HG
  have HS1 := hide ((unhide HS).below hb1)
  have HB1 := hide hb1
  have HE1 := hide he1
  have HQ : Hid (text? l = if (gt l).2.2 = 0 then some ((gt l).1, l.drop n) else none) := by
    show text? l = _
    unfold text?
    rw [hN, Int.toNat_natCast]
  clear hb1 he1 he2 hN
  generalize (gt l).1 = x at HG HQ
  generalize (gt l).2.2 = m at HG HQ
  go_wp2_with fail
  refine (unhide HG).mono ?_
  rintro e w2 ⟨rfl, hb2⟩
  have HS2 := hide ((unhide HS1).below hb2)
  have HB2 : Hid (Below w.heap.size w w2) := (unhide HB1).trans (hb2.mono (unhide HB1).size)
  clear hb2
  go_wp2_with fail
  refine (took_pg R st n m w0 w2 (unhide HS2) (fun l' e => by rw [(unhide HE1) l' e]; exact hn)).mono ?_
  rintro e w3 ⟨rfl, h3, hx3⟩
  have HS3 := hide h3
  have HX3 := hide hx3
  clear h3 hx3
  go_wp2
  go_ret
  refine ⟨x, _, rfl, ?_, unhide HS3, (BX.of_below (unhide HB2) hlt).trans (unhide HX3)⟩
  cases st with
  | none =>
    show (if m = 0 then _ else _) = none
    split <;> rfl
  | some l' =>
    have e := (unhide HE1) l' rfl
    subst e
    exact stp_get text? (some l') l' x n m (.inl rfl) (unhide HQ)
set_option maxHeartbeats 1000000 in
theorem bin_pg (R : Nat) (st : Option (List Int)) (w0 : GW) (w : World) (h : RP w0 w R st) : Calls Tryz.prog 169 #[.pointer (some ⟨R, 0, none⟩)] w (PgS w0 R bin? st w) := by
  have hlt := h.lt
  have hR0 : w0.heap.size ≤ R := by obtain ⟨_, _, _, _, _, _, _, _, _, _, _, h, _⟩ := h; exact h
  have hw0 : Below w0.heap.size w0 w := by obtain ⟨_, _, _, _, _, _, _, _, _, _, h, _⟩ := h; exact h
  have HS := hide h
  have HW0 := hide hw0
  clear h hw0
  go_enter Tryz.func169, Tryz.ntmps169
  go_wp2_with fail
  refine (left_pg R st w0 w (unhide HS)).mono ?_
  rintro e w1 ⟨v, l, rfl, hv, he1, he2, hb1⟩
  have HW1 : Hid (Below w0.heap.size w0 w1) := (unhide HW0).trans (hb1.mono (unhide HW0).size)
  obtain ⟨n, hN, hn, _⟩ := gbn_len l (unhide hv).range
  have HG := hide (rgetBin_any v l w1 ((unhide hv).below (unhide HW1)))
  rw [hN] at HG
  have HS1 := hide ((unhide HS).below hb1)
  have HB1 := hide hb1
  have HE1 := hide he1
  have HQ : Hid (bin? l = if (gbn l).2.2 = 0 then some ((gbn l).1, l.drop n) else none) := by
    show bin? l = _
    unfold bin?
    rw [hN, Int.toNat_natCast]
  clear hb1 he1 he2 hN
  generalize (gbn l).1 = x at HG HQ
  generalize (gbn l).2.2 = m at HG HQ
  go_wp2_with fail
  refine (unhide HG).mono ?_
  rintro e w2 ⟨rfl, hb2⟩
  have HS2 := hide ((unhide HS1).below hb2)
  have HB2 : Hid (Below w.heap.size w w2) := (unhide HB1).trans (hb2.mono (unhide HB1).size)
  clear hb2
  go_wp2_with fail
  refine (took_pg R st n m w0 w2 (unhide HS2) (fun l' e => by rw [(unhide HE1) l' e]; exact hn)).mono ?_
  rintro e w3 ⟨rfl, h3, hx3⟩
  have HS3 := hide h3
  have HX3 := hide hx3
  clear h3 hx3
  go_wp2
  go_ret
  refine ⟨x, _, rfl, ?_, unhide HS3, (BX.of_below (unhide HB2) hlt).trans (unhide HX3)⟩
  cases st with
  | none =>
    show (if m = 0 then _ else _) = none
    split <;> rfl
  | some l' =>
    have e := (unhide HE1) l' rfl
    subst e
    exact stp_get bin? (some l') l' x n m (.inl rfl) (unhide HQ)
theorem pair_pg (R : Nat) (st : Option (List Int)) (w0 : GW) (w : World) (h : RP w0 w R st) : Calls Tryz.prog 130 #[.pointer (some ⟨R, 0, none⟩)] w (PgI w0 R 65535 two? st w) := by
  have HS := hide h
  clear h
  go_enter Tryz.func130, Tryz.ntmps130
  go_wp2_with fail
  refine (byte_pg R st w0 w (unhide HS)).mono ?_
  rintro e w1 ⟨x, st1, rfl, hx, hs1, h1, hx1⟩
  have HS1 := hide h1
  have HX1 := hide hx1
  have HST1 := hide hs1
  clear h1 hx1 hs1
  go_wp2_with fail
  refine (byte_pg R st1 w0 w1 (unhide HS1)).mono ?_
  rintro e w2 ⟨y, st2, rfl, hy, hs2, h2, hx2⟩
  have HS2 := hide h2
  have HX2 := hide hx2
  have HST2 := hide hs2
  have e1 := K.or_256 x y hx.1 (by omega) hy.1 (by omega)
  clear h2 hx2 hs2
  go_wp2
  go_ret
  refine ⟨x * 256 + y, st2, rfl, by omega, ?_, unhide HS2, (unhide HX1).trans (unhide HX2)⟩
  have k : Stp (bindR one? fun x => bindR one? fun y => pureR (x * 256 + y)) st (x * 256 + y) st2 := (unhide HST1).bind ((unhide HST2).bind (Stp.pure _ _))
  refine Stp.congr (fun l => ?_) k
  match l with
  | [] => rfl
  | [_] => rfl
  | _ :: _ :: _ => rfl
end Go.Proofs.YtpoeakillimibaaGreatDoor.K
