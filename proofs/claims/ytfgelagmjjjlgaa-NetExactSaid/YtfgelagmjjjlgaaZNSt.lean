/- Proved here: the contract of slices.SortStableFunc at elements of several cells: sorted by the key, among equals by the mark. Helper contracts. -/
import Derived.Test.YtfgelagmjjjlgaaZNSyA
import Derived.Test.YtfgelagmjjjlgaaZNIns
namespace Go.Proofs.Ytfgelagmjjjlgaa.Nt
open Go.Shelf Go.RowKit Go.Lib Go.Sort
variable {P : Program} {α : Type} [Inhabited α] {k : Nat} {enc : α → List Value}

set_option maxHeartbeats 8000000 in
set_option maxRecDepth 1000000 in
theorem stable_any (L : Lay P k) (cf : α → α → Int) (key : α → Int) (tag : α → Nat) (hcf : ∀ x y, cf x y < 0 ↔ key x < key y) (g : Nat) (cb : Array Value) (blk off cap N : Nat) (d0 : Array α) (w0 : World) (eg : ∀ args w, (callFunc g args).run P w = .ok (.enter g args) w) (hcmp : CmpLays P g cb enc k cf blk off d0.size w0) (R : RowK enc k w0 blk off d0) (hs : d0.size = N) (hsz : N ≤ 1000000000) (d : Array α) (w : World) (hd : d.size = N) (S : SWK enc k w0 blk off d w) (ht : ∀ p q, p < q → q < N → tag d[p]! < tag d[q]!) :
    Calls P 34 #[.slice (some ⟨blk, off, none⟩) N cap, .int .i64 N, .func (.func g) #[] cb] w fun e w' => e = .returned (.tuple #[]) ∧ ∃ d', SWK enc k w0 blk off d' w' ∧ PermIn 0 N d d' ∧ Srt key tag 0 N d' := by
  have eIn : ∀ args w, (callFunc 39 args).run P w = .ok (.enter 39 args) w := enters_of L.fInsert (by kernel_rfl) rfl
  have eSy : ∀ args w, (callFunc 40 args).run P w = .ok (.enter 40 args) w := enters_of L.fSym (by kernel_rfl) rfl
  have INS := hide (fun (a b : Nat) (d : Array α) (w : World) => ins_any L cf key tag hcf g cb blk off cap N d0 w0 eg hcmp R hs hsz a b d w)
  have SYM := hide (fun (a m b : Nat) (d : Array α) (w : World) => sym_any L cf key tag hcf g cb blk off cap N d0 w0 eg hcmp R hs hsz (b - a) a m b d w (Nat.le_refl _))
  clear hcf
  have mixed := L.mixed; have t0 := L.t0; have a0 := L.a0; have z0 := L.z0; have v0 := L.v0; have tI := L.tI; have aI := L.aI; have zI := L.zI; have vI := L.vI; have tU := L.tU; have aU := L.aU; have zU := L.zU; have vU := L.vU; have tB := L.tB; have aB := L.aB; have zB := L.zB; have vB := L.vB; have tS := L.tS; have aS := L.aS; have zS := L.zS; have vS := L.vS; have tF := L.tF; have aF := L.aF; have zF := L.zF; have vF := L.vF; have aE := L.aE; have zE := L.zE
  have S0 : Aside (SWK enc k w0 blk off d w) := S
  have HD : Hid (d.size = N) := hd
  have HT : Hid (∀ p q, p < q → q < N → tag d[p]! < tag d[q]!) := ht
  clear S hcmp hd ht
  go_enter L.fStable, Try.ntmps34
  go_wp2
  go_loopg [7, 8] (N + 1) (fun kx s7 s8 wr => ∃ (a b : Nat) (dk : Array α), s7 = .int .i64 a ∧ s8 = .int .i64 b ∧ a + 20 ≤ b ∧ b ≤ a + 20 ∧ a ≤ N ∧ N - a ≤ kx ∧ Hid (dk.size = N) ∧ Aside (SWK enc k w0 blk off dk wr) ∧ Hid (20 ∣ a ∧ Blk key tag N (fun c => (c ≤ a ∧ 20 ∣ c) ∨ a ≤ c) d dk))
  case atStart => exact ⟨0, 20, d, rfl, rfl, by omega, by omega, by omega, by omega, HD, S0, ⟨0, rfl⟩, ⟨permIn_refl _ _ _, fun i j h1 h2 h3 => absurd (h3 j (.inr (Nat.zero_le _)) h1 (Nat.le_refl _)) id, fun c _ i j h1 h2 h3 => (unhide HT) i j (by omega) h3⟩⟩
  case round =>
    clear S0
    obtain ⟨a, b, dk, rfl, rfl, hb1, hb2, haN, hkx, HK, S1, HB⟩ := hrel
    have hc := (unhide INS) a (min b N) dk wr (by omega) (Nat.min_le_right _ _) (unhide HK) S1.out (fun p q h1 h2 h3 => (unhide HB).2.tg q (.inr (by omega)) p q h2 (Nat.le_refl _) (by omega))
    by_cases hlt : b ≤ N
    · rw [Nat.min_eq_left hlt] at hc
      have hltz : (b : Int) ≤ (N : Int) := by omega
      have eB : IntKind.i64.wrap ((b : Int) + 20) = (b : Int) + 20 := by rw [IntKind.wrap_i64]; omega
      go_wp2_with (go_at_fn 39; refine hc.mono ?_; rintro e w1 ⟨rfl, d1, S2, p1, s1⟩)
      go_roundg (N - b)
      case measure => omega
      case rel =>
        have hbe : b = a + 20 := by omega
        refine ⟨b, b + 20, d1, rfl, by first | rfl | go_num, Nat.le_refl _, Nat.le_refl _, hlt, Nat.le_refl _, p1.1.trans (unhide HK), S2, by rw [hbe]; exact Nat.dvd_add (unhide HB).1 (Nat.dvd_refl _), ?_⟩
        refine (unhide HB).2.step (by rw [unhide HD]; exact Nat.le_refl _) hlt p1 s1 ?_ ?_ ?_ ?_
        · intro c hcN hB
          rcases hB with ⟨h1, h2⟩ | h1
          · by_cases hca : c ≤ a
            · exact ⟨.inl ⟨hca, h2⟩, .inl hca⟩
            · have := dvd_gap (unhide HB).1 h2 (by omega)
              exact ⟨.inr (by omega), .inr (by omega)⟩
          · exact ⟨.inr (by omega), .inr h1⟩
        · intro c hB h0 hcN hx
          rcases hx with hx | hx
          · rcases hB with ⟨h1, h2⟩ | h1
            · exact .inl ⟨by omega, h2⟩
            · have : c = a := by omega
              subst this
              exact .inl ⟨by omega, (unhide HB).1⟩
          · exact .inr hx
        · exact .inl ⟨by omega, (unhide HB).1⟩
        · intro _; exact .inr (Nat.le_refl _)
    · rw [Nat.min_eq_right (by omega)] at hc
      have hltz : ¬ (b : Int) ≤ (N : Int) := by omega
      go_wp2_with (go_at_fn 39; refine hc.mono ?_; rintro e w1 ⟨rfl, d1, S2', p1, s1⟩)
      have S2 : Aside (SWK enc k w0 blk off d1 w1) := S2'
      have HK1 : Hid (d1.size = N) := p1.1.trans (unhide HK)
      have HB1 : Hid (Blk key tag N (fun c => 20 ∣ c) d d1) := by
        refine (unhide HB).2.step (by rw [unhide HD]; exact Nat.le_refl _) (Nat.le_refl _) p1 s1 ?_ ?_ (unhide HB).1 (fun h => absurd h (Nat.lt_irrefl _))
        · intro c hcN h2
          by_cases hca : c ≤ a
          · exact ⟨.inl ⟨hca, h2⟩, .inl hca⟩
          · have := dvd_gap (unhide HB).1 h2 (by omega)
            omega
        · intro c hB h0 hcN hx
          rcases hB with ⟨h1, h2⟩ | h1
          · exact h2
          · have : c = a := by omega
            subst this
            exact (unhide HB).1
      clear S2' p1 s1 S1 HB HK
      go_loopg [6] N (fun kx s6 wr => ∃ (bs : Nat) (dk : Array α), s6 = .int .i64 bs ∧ 0 < bs ∧ bs ≤ 2 * N + 20 ∧ N - bs ≤ kx ∧ Hid (dk.size = N) ∧ Aside (SWK enc k w0 blk off dk wr) ∧ Hid (Blk key tag N (fun c => bs ∣ c) d dk))
      case atStart => exact ⟨20, d1, rfl, by omega, by omega, by omega, HK1, S2, HB1⟩
      case round =>
        clear S2 HB1 HK1
        obtain ⟨bs, dk, rfl, hbs, hbs2, hkx2, HK, S1, HB⟩ := hrel
        by_cases hlt2 : bs < N
        · have hltz2 : (bs : Int) < (N : Int) := by omega
          obtain ⟨b2, Hb2⟩ : ∃ b2, Hid (b2 = 2 * bs) := ⟨_, rfl⟩
          have e1 : IntKind.i64.wrap (2 * (bs : Int)) = (b2 : Int) := by have := unhide Hb2; rw [IntKind.wrap_i64]; omega
          have e2 : IntKind.i64.wrap ((bs : Int) * 2) = (b2 : Int) := by have := unhide Hb2; rw [IntKind.wrap_i64]; omega
          have hb21 : 2 * bs ≤ b2 := by have := unhide Hb2; omega
          have hb22 : b2 ≤ 2 * bs := by have := unhide Hb2; omega
          go_wp2
          go_loopg [7, 8] (N + 1) (fun kx s7 s8 wr => ∃ (a b : Nat) (dk : Array α), s7 = .int .i64 a ∧ s8 = .int .i64 b ∧ a + b2 ≤ b ∧ b ≤ a + b2 ∧ a ≤ N ∧ N - a ≤ kx ∧ Hid (dk.size = N) ∧ Aside (SWK enc k w0 blk off dk wr) ∧ Hid (b2 ∣ a ∧ Blk key tag N (fun c => (c ≤ a ∧ b2 ∣ c) ∨ (a ≤ c ∧ bs ∣ c)) d dk))
          case atStart =>
            refine ⟨0, b2, dk, rfl, rfl, by omega, by omega, by omega, by omega, HK, S1, ⟨0, rfl⟩, (unhide HB).weak ?_ ?_⟩
            · rintro c _ (⟨h1, h2⟩ | ⟨h1, h2⟩)
              · have : c = 0 := by omega
                subst this; exact Nat.dvd_zero _
              · exact h2
            · intro c h1 _ _; exact .inr ⟨Nat.zero_le _, h1⟩
          case round =>
            clear S1 HB HK
            obtain ⟨a, b, dk, rfl, rfl, hb3, hb4, haN2, hkx3, HK, S1, HB⟩ := hrel
            have hd2 : bs ∣ b2 := by rw [unhide Hb2]; exact Nat.dvd_mul_left _ _
            have hda : bs ∣ a := Nat.dvd_trans hd2 (unhide HB).1
            obtain ⟨m, Hm⟩ : ∃ m, Hid (m = a + bs) := ⟨_, rfl⟩
            have hm1 : a + bs ≤ m := by have := unhide Hm; omega
            have hm2 : m ≤ a + bs := by have := unhide Hm; omega
            have hdm : bs ∣ m := by rw [unhide Hm]; exact Nat.dvd_add hda (Nat.dvd_refl _)
            have eM : IntKind.i64.wrap ((a : Int) + (bs : Int)) = (m : Int) := by rw [IntKind.wrap_i64]; omega
            have hs1 : ∀ z, z ≤ N → z ≤ m → Srt key tag a z dk := fun z hz hzm => (unhide HB).2.part hz (fun c hc h => by
              rcases hc with ⟨h1, _⟩ | ⟨h1, h2⟩
              · omega
              · have := dvd_gap hda h2 h; omega)
            have hs2 : ∀ z, z ≤ N → z ≤ b → Srt key tag m z dk := fun z hz hzb => (unhide HB).2.part hz (fun c hc h => by
              rcases hc with ⟨h1, _⟩ | ⟨h1, h2⟩
              · omega
              · have := dvd_gap hdm h2 h; omega)
            have hs3 : ∀ z, z ≤ N → Tg tag a m z dk := fun z hz => (unhide HB).2.marks hz (.inr ⟨by omega, hdm⟩)
            have H1 := hide hs1
            have H2 := hide hs2
            have H3 := hide hs3
            have HDA := hide (And.intro hda hdm)
            have HD2 := hide hd2
            clear hs1 hs2 hs3 hda hdm hd2
            by_cases hlt3 : b ≤ N
            · have hltz3 : (b : Int) ≤ (N : Int) := by omega
              have hc := (unhide SYM) a m b dk wr (by omega) (by omega) hlt3 (unhide HK) S1.out ((unhide H1) m (by omega) (Nat.le_refl _)) ((unhide H2) b hlt3 (Nat.le_refl _)) ((unhide H3) b hlt3)
              obtain ⟨b4, Hb4⟩ : ∃ b4, Hid (b4 = b + b2) := ⟨_, rfl⟩
              have e3 : IntKind.i64.wrap ((b : Int) + (b2 : Int)) = (b4 : Int) := by have := unhide Hb4; rw [IntKind.wrap_i64]; omega
              go_wp2_with (go_at_fn 40; refine hc.mono ?_; rintro e w1 ⟨rfl, d1, S2, p1, s1⟩)
              go_roundg (N - b)
              case measure => omega
              case rel =>
                have hbe : b = a + b2 := by omega
                have hdb : b2 ∣ b := by rw [hbe]; exact Nat.dvd_add (unhide HB).1 (Nat.dvd_refl _)
                refine ⟨b, b4, d1, rfl, rfl, by have := unhide Hb4; omega, by have := unhide Hb4; omega, hlt3, Nat.le_refl _, p1.1.trans (unhide HK), S2, hdb, ?_⟩
                refine (unhide HB).2.step (by rw [unhide HD]; exact Nat.le_refl _) hlt3 p1 s1 ?_ ?_ ?_ ?_
                · intro c hcN hB
                  rcases hB with ⟨h1, h2⟩ | ⟨h1, h2⟩
                  · by_cases hca : c ≤ a
                    · exact ⟨.inl ⟨hca, h2⟩, .inl hca⟩
                    · have := dvd_gap (unhide HB).1 h2 (by omega)
                      exact ⟨.inr ⟨by omega, Nat.dvd_trans (unhide HD2) h2⟩, .inr (by omega)⟩
                  · exact ⟨.inr ⟨by omega, h2⟩, .inr h1⟩
                · intro c hB h0 hcN hx
                  rcases hx with hx | hx
                  · rcases hB with ⟨h1, h2⟩ | ⟨h1, h2⟩
                    · exact .inl ⟨by omega, h2⟩
                    · have : c = a := by omega
                      subst this
                      exact .inl ⟨by omega, (unhide HB).1⟩
                  · rcases hB with ⟨h1, h2⟩ | ⟨h1, h2⟩
                    · omega
                    · exact .inr ⟨hx, h2⟩
                · exact .inl ⟨by omega, (unhide HB).1⟩
                · intro _; exact .inl ⟨Nat.le_refl _, hdb⟩
            · have hltz3 : ¬ (b : Int) ≤ (N : Int) := by omega
              by_cases hmN : m < N
              · have hmz : (m : Int) < (N : Int) := by omega
                have hc := (unhide SYM) a m N dk wr (by omega) hmN (Nat.le_refl _) (unhide HK) S1.out ((unhide H1) m (by omega) (Nat.le_refl _)) ((unhide H2) N (Nat.le_refl _) (by omega)) ((unhide H3) N (Nat.le_refl _))
                go_wp2_with (go_at_fn 40; refine hc.mono ?_; rintro e w1 ⟨rfl, d1, S2, p1, s1⟩)
                go_roundg (N - b2)
                case measure => omega
                case rel =>
                  refine ⟨b2, d1, rfl, by omega, by omega, Nat.le_refl _, p1.1.trans (unhide HK), S2, ?_⟩
                  refine (unhide HB).2.step (by rw [unhide HD]; exact Nat.le_refl _) (Nat.le_refl _) p1 s1 ?_ ?_ (unhide HB).1 (fun h => absurd h (Nat.lt_irrefl _))
                  · intro c hcN h2
                    by_cases hca : c ≤ a
                    · exact ⟨.inl ⟨hca, h2⟩, .inl hca⟩
                    · have := dvd_gap (unhide HB).1 h2 (by omega)
                      omega
                  · intro c hB h0 hcN hx
                    rcases hB with ⟨h1, h2⟩ | ⟨h1, h2⟩
                    · exact h2
                    · have : c = a := by omega
                      subst this
                      exact (unhide HB).1
              · have hmz : ¬ (m : Int) < (N : Int) := by omega
                go_wp2
                go_roundg (N - b2)
                case measure => omega
                case rel =>
                  refine ⟨b2, dk, rfl, by omega, by omega, Nat.le_refl _, HK, S1, (unhide HB).2.weak ?_ ?_⟩
                  · intro c hcN h2
                    by_cases hca : c ≤ a
                    · exact .inl ⟨hca, h2⟩
                    · have := dvd_gap (unhide HB).1 h2 (by omega)
                      omega
                  · intro c hB h0 hcN
                    rcases hB with ⟨h1, h2⟩ | ⟨h1, h2⟩
                    · exact h2
                    · by_cases hca : a < c
                      · have := dvd_gap (unhide HDA).1 h2 hca
                        omega
                      · have : c = a := by omega
                        subst this
                        exact (unhide HB).1
        · have hltz2 : ¬ (bs : Int) < (N : Int) := by omega
          go_wp2
          go_end0
          exact ⟨rfl, dk, S1.out, (unhide HB).perm, (unhide HB).part (Nat.le_refl _) (fun c hc h => by have := Nat.le_of_dvd h hc; omega)⟩
theorem sort_any (L : Lay P k) (cf : α → α → Int) (key : α → Int) (tag : α → Nat) (hcf : ∀ x y, cf x y < 0 ↔ key x < key y) (g : Nat) (cb : Array Value) (blk off cap N : Nat) (d0 : Array α) (w0 : World) (eg : ∀ args w, (callFunc g args).run P w = .ok (.enter g args) w) (hcmp : CmpLays P g cb enc k cf blk off d0.size w0) (R : RowK enc k w0 blk off d0) (hs : d0.size = N) (hsz : N ≤ 1000000000) (d : Array α) (w : World) (hd : d.size = N) (S : SWK enc k w0 blk off d w) (ht : ∀ p q, p < q → q < N → tag d[p]! < tag d[q]!) :
    Calls P 25 #[.slice (some ⟨blk, off, none⟩) N cap, .func (.func g) #[] cb] w fun e w' => e = .returned (.tuple #[]) ∧ ∃ d', SWK enc k w0 blk off d' w' ∧ PermIn 0 N d d' ∧ Srt key tag 0 N d' := by
  have eSt : ∀ args w, (callFunc 34 args).run P w = .ok (.enter 34 args) w := enters_of L.fStable (by kernel_rfl) rfl
  have hc := stable_any L cf key tag hcf g cb blk off cap N d0 w0 eg hcmp R hs hsz d w hd S ht
  clear hcf
  have mixed := L.mixed; have t0 := L.t0; have a0 := L.a0; have z0 := L.z0; have v0 := L.v0; have tI := L.tI; have aI := L.aI; have zI := L.zI; have vI := L.vI; have tU := L.tU; have aU := L.aU; have zU := L.zU; have vU := L.vU; have tB := L.tB; have aB := L.aB; have zB := L.zB; have vB := L.vB; have tS := L.tS; have aS := L.aS; have zS := L.zS; have vS := L.vS; have tF := L.tF; have aF := L.aF; have zF := L.zF; have vF := L.vF; have aE := L.aE; have zE := L.zE
  clear S hcmp hd ht
  go_enter L.fSort, Try.ntmps25
  go_wp2_with (go_at_fn 34; refine hc.mono ?_; rintro e w1 ⟨rfl, d1, S2, p1, s1⟩)
  go_end0
  exact ⟨rfl, d1, S2, p1, s1⟩
end Go.Proofs.Ytfgelagmjjjlgaa.Nt
