/- Proved here: the contract of the stable sort's symMerge at elements of several cells: two sorted parts, side by side, become one. Helper contracts. -/
import Derived.Test.YtfgelagmjjjlgaaZNSw
namespace Go.Proofs.Ytfgelagmjjjlgaa.Nt
open Go.Shelf Go.RowKit Go.Lib Go.Sort
variable {P : Program} {α : Type} [Inhabited α] {k : Nat} {enc : α → List Value}

theorem rot_id {d : Array α} {j m e : Nat} (h : j = m ∨ e = m) (h1 : j ≤ m) (h2 : m ≤ e) (x : Nat) : d[x]! = rot d j m e x := by
  unfold rot
  by_cases c1 : x < j
  · rw [if_pos c1]
  · rw [if_neg c1]
    rcases h with h | h
    · subst h
      by_cases c2 : x < e
      · rw [if_pos (by omega), Nat.sub_self, Nat.add_zero]
      · rw [if_neg (by omega), if_neg c2]
    · subst h
      rw [if_neg (by omega)]
      by_cases c2 : x < e
      · rw [if_pos c2, Nat.sub_self, Nat.sub_zero]
      · rw [if_neg c2]
set_option maxHeartbeats 8000000 in
set_option maxRecDepth 1000000 in
theorem sym_gen (L : Lay P k) (cf : α → α → Int) (key : α → Int) (tag : α → Nat) (hcf : ∀ x y, cf x y < 0 ↔ key x < key y) (g : Nat) (cb : Array Value) (blk off cap N : Nat) (d0 : Array α) (w0 : World) (eg : ∀ args w, (callFunc g args).run P w = .ok (.enter g args) w) (hcmp : CmpLays P g cb enc k cf blk off d0.size w0) (R : RowK enc k w0 blk off d0) (hs : d0.size = N) (hsz : N ≤ 1000000000) (G : Nat) (IH : ∀ (a m b : Nat) (d : Array α) (w : World), b - a < G → a < m → m < b → b ≤ N → d.size = N → SWK enc k w0 blk off d w → Srt key tag a m d → Srt key tag m b d → Tg tag a m b d → Calls P 40 #[.slice (some ⟨blk, off, none⟩) N cap, .int .i64 a, .int .i64 m, .int .i64 b, .func (.func g) #[] cb] w fun e w' => e = .returned (.tuple #[]) ∧ ∃ d', SWK enc k w0 blk off d' w' ∧ PermIn a b d d' ∧ Srt key tag a b d') (a m b : Nat) (d : Array α) (w : World) (hG : b - a ≤ G) (hma : a + 1 < m) (hmb : m + 1 < b) (hb : b ≤ N) (hd : d.size = N) (S : SWK enc k w0 blk off d w) (h1 : Srt key tag a m d) (h2 : Srt key tag m b d) (hg : Tg tag a m b d) :
    Calls P 40 #[.slice (some ⟨blk, off, none⟩) N cap, .int .i64 a, .int .i64 m, .int .i64 b, .func (.func g) #[] cb] w fun e w' => e = .returned (.tuple #[]) ∧ ∃ d', SWK enc k w0 blk off d' w' ∧ PermIn a b d d' ∧ Srt key tag a b d' := by
  have HCF := hide hcf
  clear hcf
  have mixed := L.mixed; have t0 := L.t0; have a0 := L.a0; have z0 := L.z0; have v0 := L.v0; have tI := L.tI; have aI := L.aI; have zI := L.zI; have vI := L.vI; have tU := L.tU; have aU := L.aU; have zU := L.zU; have vU := L.vU; have tB := L.tB; have aB := L.aB; have zB := L.zB; have vB := L.vB; have tS := L.tS; have aS := L.aS; have zS := L.zS; have vS := L.vS; have tF := L.tF; have aF := L.aF; have zF := L.zF; have vF := L.vF; have aE := L.aE; have zE := L.zE
  have eSy : ∀ args w, (callFunc 40 args).run P w = .ok (.enter 40 args) w := enters_of L.fSym (by kernel_rfl) rfl
  have eRo : ∀ args w, (callFunc 42 args).run P w = .ok (.enter 42 args) w := enters_of L.fRotate (by kernel_rfl) rfl
  have S0 : Aside (SWK enc k w0 blk off d w) := S
  have HC : Aside _ := hcmp
  have HD : Hid (d.size = N) := hd
  have HS : Hid (Srt key tag a m d ∧ Srt key tag m b d) := ⟨h1, h2⟩
  have HG : Hid (Tg tag a m b d) := hg
  have IH := hide IH
  have hma1 : IntKind.i64.wrap ((m : Int) - (a : Int)) = (m : Int) - (a : Int) := by rw [IntKind.wrap_i64]; omega
  have hma2 : ((m : Int) - (a : Int) == 1) = false := beq_false_of_ne (by omega)
  have hma3 : ¬ ((m : Int) - (a : Int) = 1) := by omega
  have hbm1 : IntKind.i64.wrap ((b : Int) - (m : Int)) = (b : Int) - (m : Int) := by rw [IntKind.wrap_i64]; omega
  have hbm2 : ((b : Int) - (m : Int) == 1) = false := beq_false_of_ne (by omega)
  have hbm3 : ¬ ((b : Int) - (m : Int) = 1) := by omega
  obtain ⟨mid, Hm⟩ : ∃ mid, Hid (mid = (a + b) / 2) := ⟨_, rfl⟩
  have eM : ((a : Int) + (b : Int)) / 2 = (mid : Int) := by have := unhide Hm; omega
  have m1 : a < mid := by have := unhide Hm; omega
  have m2 : mid < b := by have := unhide Hm; omega
  have m3 : 2 * mid ≤ a + b := by have := unhide Hm; omega
  have m4 : a + b ≤ 2 * mid + 1 := by have := unhide Hm; omega
  clear S hcmp hd h1 h2 hg
  go_enter L.fSym, Try.ntmps40
  by_cases hmm : mid < m
  · have hmz : (mid : Int) < (m : Int) := by omega
    obtain ⟨lo, hlo⟩ : ∃ lo, lo = mid + m - b := ⟨_, rfl⟩
    have eL : IntKind.i64.wrap ((mid : Int) + (m : Int) - (b : Int)) = (lo : Int) := by rw [IntKind.wrap_i64]; omega
    have lo1 : lo + b = mid + m := by omega
    have lo2 : a ≤ lo := by omega
    have lo3 : lo ≤ mid := by omega
    clear hlo
    go_wp2
    go_loopg [20, 21] (mid - lo) (fun kx s10 s11 wr => ∃ i j : Nat, s10 = .int .i64 i ∧ s11 = .int .i64 j ∧ lo ≤ i ∧ i ≤ j ∧ j ≤ mid ∧ j - i ≤ kx ∧ Aside (SWK enc k w0 blk off d wr) ∧ Hid ((lo < i → rr key tag d[i - 1]! d[mid + m - i]!) ∧ (j < mid → rr key tag d[mid + m - 1 - j]! d[j]!)))
    case atStart => exact ⟨lo, mid, by first | rfl | go_num, by first | rfl | go_num, Nat.le_refl _, by omega, Nat.le_refl _, by omega, S0, fun h => by omega, fun h => by omega⟩
    case round =>
      clear S0
      obtain ⟨i, j, rfl, rfl, hmi, hij, hjb, hkx, S1, HI⟩ := hrel
      by_cases hlt : i < j
      · have hltz : (i : Int) < (j : Int) := by omega
        obtain ⟨h, Hh⟩ : ∃ h, Hid (h = (i + j) / 2) := ⟨_, rfl⟩
        have eH : ((i : Int) + (j : Int)) / 2 = (h : Int) := by have := unhide Hh; omega
        have h1 : i ≤ h := by have := unhide Hh; omega
        have h2 : h < j := by have := unhide Hh; omega
        obtain ⟨u, Hu⟩ : ∃ u, Hid (u = mid + m - 1 - h) := ⟨_, rfl⟩
        have eU : IntKind.i64.wrap ((mid : Int) + (m : Int) - 1 - (h : Int)) = (u : Int) := by have := unhide Hu; rw [IntKind.wrap_i64]; omega
        have hu1 : m ≤ u := by have := unhide Hu; omega
        have hu2 : u < b := by have := unhide Hu; omega
        have eu : (((u : Nat)) : Int).toNat = u := by omega
        have pu : (0 : Int) ≤ ((u : Nat) : Int) := by omega
        have bu : ((u : Nat) : Int) < (N : Int) := by omega
        have ev : (((h : Nat)) : Int).toNat = h := by omega
        have pv : (0 : Int) ≤ ((h : Nat) : Int) := by omega
        have bv : ((h : Nat) : Int) < (N : Int) := by omega
        obtain ⟨xu, hxu⟩ : ∃ x, x = d[u]! := ⟨_, rfl⟩
        obtain ⟨xv, hxv⟩ : ∃ x, x = d[h]! := ⟨_, rfl⟩
        have lu := S1.out.ld R (by have := unhide HD; omega) P u (by have := unhide HD; omega)
        have lv := S1.out.ld R (by have := unhide HD; omega) P h (by have := unhide HD; omega)
        rw [← hxu] at lu
        rw [← hxv] at lv
        have hcu := S1.out.cmp HC.out (by have := unhide HD; omega) xu xv
        have HX := hide (And.intro hxu hxv)
        clear hxu hxv
        by_cases hlv : cf xu xv < 0
        · have HLT : Hid (key d[u]! < key d[h]!) := by obtain ⟨e1, e2⟩ := unhide HX; rw [← e1, ← e2]; exact ((unhide HCF) _ _).1 hlv
          have hdv : decide (cf xu xv < 0) = true := decide_eq_true hlv
          go_wp2_with fail
          go_quiet_grown (first | (go_at_fn g; refine Calls.grown_of (hcu _ _)))
          have S2 : Aside (SWK enc k w0 blk off d (grow (wr.drewN nq) osq)) := S1.out.grown nq osq
          clear lu lv hcu S1 HX
          generalize grow (wr.drewN nq) osq = w2 at S2 ⊢
          clear nq osq
          go_wp2
          go_roundg (h - i)
          case measure => omega
          case rel => exact ⟨i, h, rfl, rfl, hmi, by omega, by omega, Nat.le_refl _, S2, (unhide HI).1, fun _ => by rw [← unhide Hu]; exact rr.of_lt (unhide HLT)⟩

        · have HLT : Hid (key d[h]! ≤ key d[u]!) := by obtain ⟨e1, e2⟩ := unhide HX; rw [← e1, ← e2]; exact Int.not_lt.1 fun h => hlv (((unhide HCF) _ _).2 h)
          have hdv : decide (cf xu xv < 0) = false := decide_eq_false hlv
          go_wp2_with fail
          go_quiet_grown (first | (go_at_fn g; refine Calls.grown_of (hcu _ _)))
          have S2 : Aside (SWK enc k w0 blk off d (grow (wr.drewN nq) osq)) := S1.out.grown nq osq
          clear lu lv hcu S1 HX
          generalize grow (wr.drewN nq) osq = w2 at S2 ⊢
          clear nq osq
          go_wp2
          go_roundg (j - (h + 1))
          case measure => omega
          case rel => exact ⟨h + 1, j, by first | rfl | go_num, rfl, by omega, by omega, hjb, Nat.le_refl _, S2, fun _ => by rw [Nat.add_sub_cancel, show mid + m - (h + 1) = u from by have := unhide Hu; omega]; exact rr.of_not (Int.not_lt.2 (unhide HLT)) ((unhide HG) h u (by omega) (by omega) hu1 hu2), (unhide HI).2⟩
      · have hltz : ¬ (i : Int) < (j : Int) := by omega
        have hj : j = i := by omega
        subst hj
        obtain ⟨e, He⟩ : ∃ e, e = mid + m - j := ⟨_, rfl⟩
        have eE : IntKind.i64.wrap ((mid : Int) + (m : Int) - (j : Int)) = (e : Int) := by rw [IntKind.wrap_i64]; omega
        have HI2 : Hid ((a < j → e < b → rr key tag d[j - 1]! d[e]!) ∧ (j < m → m < e → rr key tag d[e - 1]! d[j]!)) := ⟨fun g1 g2 => by rw [He]; exact (unhide HI).1 (by omega), fun g1 g2 => by rw [show e - 1 = mid + m - 1 - j from by omega]; exact (unhide HI).2 (by omega)⟩
        have l1 : a ≤ j := by omega
        have l2 : j ≤ m := by omega
        have l3 : m ≤ e := by omega
        have l4 : e ≤ b := by omega
        have l5 : j ≤ mid := by omega
        have l6 : mid ≤ e := by omega
        have l7 : mid + m = j + e := by omega
        have HE := hide He
        clear He HI
        have HI := HI2
        clear HI2
        by_cases c1 : j < m ∧ m < e
        · have q1 : ((j : Nat) : Int) < ((m : Nat) : Int) := by omega
          have q2 : ((m : Nat) : Int) < ((e : Nat) : Int) := by omega
          have hc1 := rotate_any L (.func (.func g) #[] cb) blk off cap j m e N d0 d w0 wr R hs (unhide HD) S1.out c1.1 c1.2 (by omega) (by omega)
          go_wp2_with fail
          refine hc1.mono ?_
          rintro e' w1 ⟨rfl, d1, S1', p1, hd1⟩
          clear S1 q1 q2
          have S1 : Aside (SWK enc k w0 blk off d1 w1) := S1'
          have HD1 : Hid (d1.size = N) := p1.1.trans (unhide HD)
          have HP1 : Hid (PermIn a b d d1) := permIn_mono _ _ _ _ _ _ (by omega) (by omega) (by rw [unhide HD]; exact hb) p1
          clear S1' p1

          have HX : Hid (∀ i j, a ≤ i → i < mid → mid ≤ j → j < b → rr key tag d1[i]! d1[j]!) := fun i j g1 g2 g3 g4 => sym_cross (unhide HS).1 (unhide HS).2 (by omega) (by omega) (by omega) (by omega) (by omega) hd1 (unhide HI).1 (unhide HI).2 i j g1 g2 g3 g4
          have HR : Hid (Srt key tag a j d1 ∧ Srt key tag j mid d1 ∧ Srt key tag mid e d1 ∧ Srt key tag e b d1 ∧ Tg tag a j mid d1 ∧ Tg tag mid e b d1) := sym_rest (unhide HS).1 (unhide HS).2 (unhide HG) (by omega) (by omega) (by omega) (by omega) (by omega) hd1
          clear hd1
          by_cases c2 : a < j ∧ j < mid
          · have q1 : ((a : Nat) : Int) < ((j : Nat) : Int) := by omega
            have q2 : ((j : Nat) : Int) < ((mid : Nat) : Int) := by omega
            have hc2 := (unhide IH) a j mid d1 w1 (by omega) c2.1 c2.2 (by omega) (unhide HD1) S1.out ((unhide HR).1) ((unhide HR).2.1) ((unhide HR).2.2.2.2.1)
            go_wp2_with fail
            refine hc2.mono ?_
            rintro e' w2 ⟨rfl, d2, S2', p2, s2⟩
            have S2 : Aside (SWK enc k w0 blk off d2 w2) := S2'
            have HD2 : Hid (d2.size = N) := p2.1.trans (unhide HD1)
            have HR2 : Hid (PermIn a mid d1 d2 ∧ Srt key tag a mid d2 ∧ Srt key tag mid e d2 ∧ Srt key tag e b d2 ∧ Tg tag mid e b d2) := ⟨p2, s2, fun pp qq g1 g2 g3 => by rw [perm_out p2 pp (.inr (by omega)), perm_out p2 qq (.inr (by omega))]; exact (unhide HR).2.2.1 pp qq g1 g2 g3, fun pp qq g1 g2 g3 => by rw [perm_out p2 pp (.inr (by omega)), perm_out p2 qq (.inr (by omega))]; exact (unhide HR).2.2.2.1 pp qq g1 g2 g3, fun pp qq g1 g2 g3 g4 => by rw [perm_out p2 pp (.inr (by omega)), perm_out p2 qq (.inr (by omega))]; exact (unhide HR).2.2.2.2.2 pp qq g1 g2 g3 g4⟩
            clear S1 S2' p2 s2 q1 q2
            by_cases c3 : mid < e ∧ e < b
            · have q1 : ((mid : Nat) : Int) < ((e : Nat) : Int) := by omega
              have q2 : ((e : Nat) : Int) < ((b : Nat) : Int) := by omega
              have hc3 := (unhide IH) mid e b d2 w2 (by omega) (by omega) c3.2 hb (unhide HD2) S2.out ((unhide HR2).2.2.1) ((unhide HR2).2.2.2.1) ((unhide HR2).2.2.2.2)
              go_wp2_with (go_at_fn 40; refine hc3.mono ?_; rintro e' w3 ⟨rfl, d3, S3, p3, s3⟩)
              all_goals (
                go_end0
                obtain ⟨f1, f2⟩ := sym_whole (by omega) (by omega) (by rw [unhide HD1]; exact hb) (unhide HX) (unhide HR2).1 (unhide HR2).2.1 p3 s3
                exact ⟨rfl, d3, S3, permIn_trans _ _ _ _ _ (unhide HP1) f2, f1⟩)
            · have q1 : ¬ (((mid : Nat) : Int) < ((e : Nat) : Int) ∧ ((e : Nat) : Int) < ((b : Nat) : Int)) := by omega
              have q3 : (decide (((mid : Nat) : Int) < ((e : Nat) : Int)) && decide (((e : Nat) : Int) < ((b : Nat) : Int))) = false := by simp only [Bool.and_eq_false_iff, decide_eq_false_iff_not]; omega
              have s3 : Srt key tag mid b d2 := by
                by_cases e1 : mid < e
                · have e2 : e = b := by omega
                  subst e2; exact (unhide HR2).2.2.1
                · have e2 : e = mid := by omega
                  subst e2; exact (unhide HR2).2.2.2.1
              have HS3 := hide s3
              clear s3
              by_cases q4 : ((mid : Nat) : Int) < ((e : Nat) : Int)
              · have q5 : ¬ ((e : Nat) : Int) < ((b : Nat) : Int) := by omega
                go_wp2
                all_goals (
                  go_end0
                  obtain ⟨f1, f2⟩ := sym_whole (by omega) (by omega) (by rw [unhide HD1]; exact hb) (unhide HX) (unhide HR2).1 (unhide HR2).2.1 (permIn_refl d2 mid b) (unhide HS3)
                  exact ⟨rfl, d2, S2.out, permIn_trans _ _ _ _ _ (unhide HP1) f2, f1⟩)
              · go_wp2
                all_goals (
                  go_end0
                  obtain ⟨f1, f2⟩ := sym_whole (by omega) (by omega) (by rw [unhide HD1]; exact hb) (unhide HX) (unhide HR2).1 (unhide HR2).2.1 (permIn_refl d2 mid b) (unhide HS3)
                  exact ⟨rfl, d2, S2.out, permIn_trans _ _ _ _ _ (unhide HP1) f2, f1⟩)
          · have S2 : Aside (SWK enc k w0 blk off d1 w1) := S1
            clear S1
            have HD2 : Hid (d1.size = N) := HD1
            have HR2 : Hid (PermIn a mid d1 d1 ∧ Srt key tag a mid d1 ∧ Srt key tag mid e d1 ∧ Srt key tag e b d1 ∧ Tg tag mid e b d1) := ⟨permIn_refl _ _ _, (by
                by_cases e1 : a < j
                · have e2 : j = mid := by omega
                  subst e2; exact (unhide HR).1
                · have e2 : j = a := by omega
                  subst e2; exact (unhide HR).2.1), (unhide HR).2.2.1, (unhide HR).2.2.2.1, (unhide HR).2.2.2.2.2⟩
            by_cases q6 : ((a : Nat) : Int) < ((j : Nat) : Int)
            · have q7 : ¬ ((j : Nat) : Int) < ((mid : Nat) : Int) := by omega
              by_cases c3 : mid < e ∧ e < b
              · have q1 : ((mid : Nat) : Int) < ((e : Nat) : Int) := by omega
                have q2 : ((e : Nat) : Int) < ((b : Nat) : Int) := by omega
                have hc3 := (unhide IH) mid e b d1 w1 (by omega) (by omega) c3.2 hb (unhide HD2) S2.out ((unhide HR2).2.2.1) ((unhide HR2).2.2.2.1) ((unhide HR2).2.2.2.2)
                go_wp2_with (go_at_fn 40; refine hc3.mono ?_; rintro e' w3 ⟨rfl, d3, S3, p3, s3⟩)
                all_goals (
                  go_end0
                  obtain ⟨f1, f2⟩ := sym_whole (by omega) (by omega) (by rw [unhide HD1]; exact hb) (unhide HX) (unhide HR2).1 (unhide HR2).2.1 p3 s3
                  exact ⟨rfl, d3, S3, permIn_trans _ _ _ _ _ (unhide HP1) f2, f1⟩)
              · have q1 : ¬ (((mid : Nat) : Int) < ((e : Nat) : Int) ∧ ((e : Nat) : Int) < ((b : Nat) : Int)) := by omega
                have q3 : (decide (((mid : Nat) : Int) < ((e : Nat) : Int)) && decide (((e : Nat) : Int) < ((b : Nat) : Int))) = false := by simp only [Bool.and_eq_false_iff, decide_eq_false_iff_not]; omega
                have s3 : Srt key tag mid b d1 := by
                  by_cases e1 : mid < e
                  · have e2 : e = b := by omega
                    subst e2; exact (unhide HR2).2.2.1
                  · have e2 : e = mid := by omega
                    subst e2; exact (unhide HR2).2.2.2.1
                have HS3 := hide s3
                clear s3
                by_cases q4 : ((mid : Nat) : Int) < ((e : Nat) : Int)
                · have q5 : ¬ ((e : Nat) : Int) < ((b : Nat) : Int) := by omega
                  go_wp2
                  all_goals (
                    go_end0
                    obtain ⟨f1, f2⟩ := sym_whole (by omega) (by omega) (by rw [unhide HD1]; exact hb) (unhide HX) (unhide HR2).1 (unhide HR2).2.1 (permIn_refl d1 mid b) (unhide HS3)
                    exact ⟨rfl, d1, S2.out, permIn_trans _ _ _ _ _ (unhide HP1) f2, f1⟩)
                · go_wp2
                  all_goals (
                    go_end0
                    obtain ⟨f1, f2⟩ := sym_whole (by omega) (by omega) (by rw [unhide HD1]; exact hb) (unhide HX) (unhide HR2).1 (unhide HR2).2.1 (permIn_refl d1 mid b) (unhide HS3)
                    exact ⟨rfl, d1, S2.out, permIn_trans _ _ _ _ _ (unhide HP1) f2, f1⟩)
            · by_cases c3 : mid < e ∧ e < b
              · have q1 : ((mid : Nat) : Int) < ((e : Nat) : Int) := by omega
                have q2 : ((e : Nat) : Int) < ((b : Nat) : Int) := by omega
                have hc3 := (unhide IH) mid e b d1 w1 (by omega) (by omega) c3.2 hb (unhide HD2) S2.out ((unhide HR2).2.2.1) ((unhide HR2).2.2.2.1) ((unhide HR2).2.2.2.2)
                go_wp2_with (go_at_fn 40; refine hc3.mono ?_; rintro e' w3 ⟨rfl, d3, S3, p3, s3⟩)
                all_goals (
                  go_end0
                  obtain ⟨f1, f2⟩ := sym_whole (by omega) (by omega) (by rw [unhide HD1]; exact hb) (unhide HX) (unhide HR2).1 (unhide HR2).2.1 p3 s3
                  exact ⟨rfl, d3, S3, permIn_trans _ _ _ _ _ (unhide HP1) f2, f1⟩)
              · have q1 : ¬ (((mid : Nat) : Int) < ((e : Nat) : Int) ∧ ((e : Nat) : Int) < ((b : Nat) : Int)) := by omega
                have q3 : (decide (((mid : Nat) : Int) < ((e : Nat) : Int)) && decide (((e : Nat) : Int) < ((b : Nat) : Int))) = false := by simp only [Bool.and_eq_false_iff, decide_eq_false_iff_not]; omega
                have s3 : Srt key tag mid b d1 := by
                  by_cases e1 : mid < e
                  · have e2 : e = b := by omega
                    subst e2; exact (unhide HR2).2.2.1
                  · have e2 : e = mid := by omega
                    subst e2; exact (unhide HR2).2.2.2.1
                have HS3 := hide s3
                clear s3
                by_cases q4 : ((mid : Nat) : Int) < ((e : Nat) : Int)
                · have q5 : ¬ ((e : Nat) : Int) < ((b : Nat) : Int) := by omega
                  go_wp2
                  all_goals (
                    go_end0
                    obtain ⟨f1, f2⟩ := sym_whole (by omega) (by omega) (by rw [unhide HD1]; exact hb) (unhide HX) (unhide HR2).1 (unhide HR2).2.1 (permIn_refl d1 mid b) (unhide HS3)
                    exact ⟨rfl, d1, S2.out, permIn_trans _ _ _ _ _ (unhide HP1) f2, f1⟩)
                · go_wp2
                  all_goals (
                    go_end0
                    obtain ⟨f1, f2⟩ := sym_whole (by omega) (by omega) (by rw [unhide HD1]; exact hb) (unhide HX) (unhide HR2).1 (unhide HR2).2.1 (permIn_refl d1 mid b) (unhide HS3)
                    exact ⟨rfl, d1, S2.out, permIn_trans _ _ _ _ _ (unhide HP1) f2, f1⟩)
        · have hd1 : ∀ x, d[x]! = rot d j m e x := fun x => rot_id (by omega) (by omega) (by omega) x
          have HD1 : Hid (d.size = N) := HD
          have HP1 : Hid (PermIn a b d d) := permIn_refl _ _ _

          have HX : Hid (∀ i j, a ≤ i → i < mid → mid ≤ j → j < b → rr key tag d[i]! d[j]!) := fun i j g1 g2 g3 g4 => sym_cross (unhide HS).1 (unhide HS).2 (by omega) (by omega) (by omega) (by omega) (by omega) hd1 (unhide HI).1 (unhide HI).2 i j g1 g2 g3 g4
          have HR : Hid (Srt key tag a j d ∧ Srt key tag j mid d ∧ Srt key tag mid e d ∧ Srt key tag e b d ∧ Tg tag a j mid d ∧ Tg tag mid e b d) := sym_rest (unhide HS).1 (unhide HS).2 (unhide HG) (by omega) (by omega) (by omega) (by omega) (by omega) hd1
          clear hd1

          by_cases q8 : ((j : Nat) : Int) < ((m : Nat) : Int)
          · have q9 : ¬ ((m : Nat) : Int) < ((e : Nat) : Int) := by omega
            by_cases c2 : a < j ∧ j < mid
            · have q1 : ((a : Nat) : Int) < ((j : Nat) : Int) := by omega
              have q2 : ((j : Nat) : Int) < ((mid : Nat) : Int) := by omega
              have hc2 := (unhide IH) a j mid d wr (by omega) c2.1 c2.2 (by omega) (unhide HD1) S1.out ((unhide HR).1) ((unhide HR).2.1) ((unhide HR).2.2.2.2.1)
              go_wp2_with fail
              refine hc2.mono ?_
              rintro e' w2 ⟨rfl, d2, S2', p2, s2⟩
              have S2 : Aside (SWK enc k w0 blk off d2 w2) := S2'
              have HD2 : Hid (d2.size = N) := p2.1.trans (unhide HD1)
              have HR2 : Hid (PermIn a mid d d2 ∧ Srt key tag a mid d2 ∧ Srt key tag mid e d2 ∧ Srt key tag e b d2 ∧ Tg tag mid e b d2) := ⟨p2, s2, fun pp qq g1 g2 g3 => by rw [perm_out p2 pp (.inr (by omega)), perm_out p2 qq (.inr (by omega))]; exact (unhide HR).2.2.1 pp qq g1 g2 g3, fun pp qq g1 g2 g3 => by rw [perm_out p2 pp (.inr (by omega)), perm_out p2 qq (.inr (by omega))]; exact (unhide HR).2.2.2.1 pp qq g1 g2 g3, fun pp qq g1 g2 g3 g4 => by rw [perm_out p2 pp (.inr (by omega)), perm_out p2 qq (.inr (by omega))]; exact (unhide HR).2.2.2.2.2 pp qq g1 g2 g3 g4⟩
              clear S1 S2' p2 s2 q1 q2
              by_cases c3 : mid < e ∧ e < b
              · have q1 : ((mid : Nat) : Int) < ((e : Nat) : Int) := by omega
                have q2 : ((e : Nat) : Int) < ((b : Nat) : Int) := by omega
                have hc3 := (unhide IH) mid e b d2 w2 (by omega) (by omega) c3.2 hb (unhide HD2) S2.out ((unhide HR2).2.2.1) ((unhide HR2).2.2.2.1) ((unhide HR2).2.2.2.2)
                go_wp2_with (go_at_fn 40; refine hc3.mono ?_; rintro e' w3 ⟨rfl, d3, S3, p3, s3⟩)
                all_goals (
                  go_end0
                  obtain ⟨f1, f2⟩ := sym_whole (by omega) (by omega) (by rw [unhide HD1]; exact hb) (unhide HX) (unhide HR2).1 (unhide HR2).2.1 p3 s3
                  exact ⟨rfl, d3, S3, permIn_trans _ _ _ _ _ (unhide HP1) f2, f1⟩)
              · have q1 : ¬ (((mid : Nat) : Int) < ((e : Nat) : Int) ∧ ((e : Nat) : Int) < ((b : Nat) : Int)) := by omega
                have q3 : (decide (((mid : Nat) : Int) < ((e : Nat) : Int)) && decide (((e : Nat) : Int) < ((b : Nat) : Int))) = false := by simp only [Bool.and_eq_false_iff, decide_eq_false_iff_not]; omega
                have s3 : Srt key tag mid b d2 := by
                  by_cases e1 : mid < e
                  · have e2 : e = b := by omega
                    subst e2; exact (unhide HR2).2.2.1
                  · have e2 : e = mid := by omega
                    subst e2; exact (unhide HR2).2.2.2.1
                have HS3 := hide s3
                clear s3
                by_cases q4 : ((mid : Nat) : Int) < ((e : Nat) : Int)
                · have q5 : ¬ ((e : Nat) : Int) < ((b : Nat) : Int) := by omega
                  go_wp2
                  all_goals (
                    go_end0
                    obtain ⟨f1, f2⟩ := sym_whole (by omega) (by omega) (by rw [unhide HD1]; exact hb) (unhide HX) (unhide HR2).1 (unhide HR2).2.1 (permIn_refl d2 mid b) (unhide HS3)
                    exact ⟨rfl, d2, S2.out, permIn_trans _ _ _ _ _ (unhide HP1) f2, f1⟩)
                · go_wp2
                  all_goals (
                    go_end0
                    obtain ⟨f1, f2⟩ := sym_whole (by omega) (by omega) (by rw [unhide HD1]; exact hb) (unhide HX) (unhide HR2).1 (unhide HR2).2.1 (permIn_refl d2 mid b) (unhide HS3)
                    exact ⟨rfl, d2, S2.out, permIn_trans _ _ _ _ _ (unhide HP1) f2, f1⟩)
            · have S2 : Aside (SWK enc k w0 blk off d wr) := S1
              clear S1
              have HD2 : Hid (d.size = N) := HD1
              have HR2 : Hid (PermIn a mid d d ∧ Srt key tag a mid d ∧ Srt key tag mid e d ∧ Srt key tag e b d ∧ Tg tag mid e b d) := ⟨permIn_refl _ _ _, (by
                  by_cases e1 : a < j
                  · have e2 : j = mid := by omega
                    subst e2; exact (unhide HR).1
                  · have e2 : j = a := by omega
                    subst e2; exact (unhide HR).2.1), (unhide HR).2.2.1, (unhide HR).2.2.2.1, (unhide HR).2.2.2.2.2⟩
              by_cases q6 : ((a : Nat) : Int) < ((j : Nat) : Int)
              · have q7 : ¬ ((j : Nat) : Int) < ((mid : Nat) : Int) := by omega
                by_cases c3 : mid < e ∧ e < b
                · have q1 : ((mid : Nat) : Int) < ((e : Nat) : Int) := by omega
                  have q2 : ((e : Nat) : Int) < ((b : Nat) : Int) := by omega
                  have hc3 := (unhide IH) mid e b d wr (by omega) (by omega) c3.2 hb (unhide HD2) S2.out ((unhide HR2).2.2.1) ((unhide HR2).2.2.2.1) ((unhide HR2).2.2.2.2)
                  go_wp2_with (go_at_fn 40; refine hc3.mono ?_; rintro e' w3 ⟨rfl, d3, S3, p3, s3⟩)
                  all_goals (
                    go_end0
                    obtain ⟨f1, f2⟩ := sym_whole (by omega) (by omega) (by rw [unhide HD1]; exact hb) (unhide HX) (unhide HR2).1 (unhide HR2).2.1 p3 s3
                    exact ⟨rfl, d3, S3, permIn_trans _ _ _ _ _ (unhide HP1) f2, f1⟩)
                · have q1 : ¬ (((mid : Nat) : Int) < ((e : Nat) : Int) ∧ ((e : Nat) : Int) < ((b : Nat) : Int)) := by omega
                  have q3 : (decide (((mid : Nat) : Int) < ((e : Nat) : Int)) && decide (((e : Nat) : Int) < ((b : Nat) : Int))) = false := by simp only [Bool.and_eq_false_iff, decide_eq_false_iff_not]; omega
                  have s3 : Srt key tag mid b d := by
                    by_cases e1 : mid < e
                    · have e2 : e = b := by omega
                      subst e2; exact (unhide HR2).2.2.1
                    · have e2 : e = mid := by omega
                      subst e2; exact (unhide HR2).2.2.2.1
                  have HS3 := hide s3
                  clear s3
                  by_cases q4 : ((mid : Nat) : Int) < ((e : Nat) : Int)
                  · have q5 : ¬ ((e : Nat) : Int) < ((b : Nat) : Int) := by omega
                    go_wp2
                    all_goals (
                      go_end0
                      obtain ⟨f1, f2⟩ := sym_whole (by omega) (by omega) (by rw [unhide HD1]; exact hb) (unhide HX) (unhide HR2).1 (unhide HR2).2.1 (permIn_refl d mid b) (unhide HS3)
                      exact ⟨rfl, d, S2.out, permIn_trans _ _ _ _ _ (unhide HP1) f2, f1⟩)
                  · go_wp2
                    all_goals (
                      go_end0
                      obtain ⟨f1, f2⟩ := sym_whole (by omega) (by omega) (by rw [unhide HD1]; exact hb) (unhide HX) (unhide HR2).1 (unhide HR2).2.1 (permIn_refl d mid b) (unhide HS3)
                      exact ⟨rfl, d, S2.out, permIn_trans _ _ _ _ _ (unhide HP1) f2, f1⟩)
              · by_cases c3 : mid < e ∧ e < b
                · have q1 : ((mid : Nat) : Int) < ((e : Nat) : Int) := by omega
                  have q2 : ((e : Nat) : Int) < ((b : Nat) : Int) := by omega
                  have hc3 := (unhide IH) mid e b d wr (by omega) (by omega) c3.2 hb (unhide HD2) S2.out ((unhide HR2).2.2.1) ((unhide HR2).2.2.2.1) ((unhide HR2).2.2.2.2)
                  go_wp2_with (go_at_fn 40; refine hc3.mono ?_; rintro e' w3 ⟨rfl, d3, S3, p3, s3⟩)
                  all_goals (
                    go_end0
                    obtain ⟨f1, f2⟩ := sym_whole (by omega) (by omega) (by rw [unhide HD1]; exact hb) (unhide HX) (unhide HR2).1 (unhide HR2).2.1 p3 s3
                    exact ⟨rfl, d3, S3, permIn_trans _ _ _ _ _ (unhide HP1) f2, f1⟩)
                · have q1 : ¬ (((mid : Nat) : Int) < ((e : Nat) : Int) ∧ ((e : Nat) : Int) < ((b : Nat) : Int)) := by omega
                  have q3 : (decide (((mid : Nat) : Int) < ((e : Nat) : Int)) && decide (((e : Nat) : Int) < ((b : Nat) : Int))) = false := by simp only [Bool.and_eq_false_iff, decide_eq_false_iff_not]; omega
                  have s3 : Srt key tag mid b d := by
                    by_cases e1 : mid < e
                    · have e2 : e = b := by omega
                      subst e2; exact (unhide HR2).2.2.1
                    · have e2 : e = mid := by omega
                      subst e2; exact (unhide HR2).2.2.2.1
                  have HS3 := hide s3
                  clear s3
                  by_cases q4 : ((mid : Nat) : Int) < ((e : Nat) : Int)
                  · have q5 : ¬ ((e : Nat) : Int) < ((b : Nat) : Int) := by omega
                    go_wp2
                    all_goals (
                      go_end0
                      obtain ⟨f1, f2⟩ := sym_whole (by omega) (by omega) (by rw [unhide HD1]; exact hb) (unhide HX) (unhide HR2).1 (unhide HR2).2.1 (permIn_refl d mid b) (unhide HS3)
                      exact ⟨rfl, d, S2.out, permIn_trans _ _ _ _ _ (unhide HP1) f2, f1⟩)
                  · go_wp2
                    all_goals (
                      go_end0
                      obtain ⟨f1, f2⟩ := sym_whole (by omega) (by omega) (by rw [unhide HD1]; exact hb) (unhide HX) (unhide HR2).1 (unhide HR2).2.1 (permIn_refl d mid b) (unhide HS3)
                      exact ⟨rfl, d, S2.out, permIn_trans _ _ _ _ _ (unhide HP1) f2, f1⟩)
          · by_cases c2 : a < j ∧ j < mid
            · have q1 : ((a : Nat) : Int) < ((j : Nat) : Int) := by omega
              have q2 : ((j : Nat) : Int) < ((mid : Nat) : Int) := by omega
              have hc2 := (unhide IH) a j mid d wr (by omega) c2.1 c2.2 (by omega) (unhide HD1) S1.out ((unhide HR).1) ((unhide HR).2.1) ((unhide HR).2.2.2.2.1)
              go_wp2_with fail
              refine hc2.mono ?_
              rintro e' w2 ⟨rfl, d2, S2', p2, s2⟩
              have S2 : Aside (SWK enc k w0 blk off d2 w2) := S2'
              have HD2 : Hid (d2.size = N) := p2.1.trans (unhide HD1)
              have HR2 : Hid (PermIn a mid d d2 ∧ Srt key tag a mid d2 ∧ Srt key tag mid e d2 ∧ Srt key tag e b d2 ∧ Tg tag mid e b d2) := ⟨p2, s2, fun pp qq g1 g2 g3 => by rw [perm_out p2 pp (.inr (by omega)), perm_out p2 qq (.inr (by omega))]; exact (unhide HR).2.2.1 pp qq g1 g2 g3, fun pp qq g1 g2 g3 => by rw [perm_out p2 pp (.inr (by omega)), perm_out p2 qq (.inr (by omega))]; exact (unhide HR).2.2.2.1 pp qq g1 g2 g3, fun pp qq g1 g2 g3 g4 => by rw [perm_out p2 pp (.inr (by omega)), perm_out p2 qq (.inr (by omega))]; exact (unhide HR).2.2.2.2.2 pp qq g1 g2 g3 g4⟩
              clear S1 S2' p2 s2 q1 q2
              by_cases c3 : mid < e ∧ e < b
              · have q1 : ((mid : Nat) : Int) < ((e : Nat) : Int) := by omega
                have q2 : ((e : Nat) : Int) < ((b : Nat) : Int) := by omega
                have hc3 := (unhide IH) mid e b d2 w2 (by omega) (by omega) c3.2 hb (unhide HD2) S2.out ((unhide HR2).2.2.1) ((unhide HR2).2.2.2.1) ((unhide HR2).2.2.2.2)
                go_wp2_with (go_at_fn 40; refine hc3.mono ?_; rintro e' w3 ⟨rfl, d3, S3, p3, s3⟩)
                all_goals (
                  go_end0
                  obtain ⟨f1, f2⟩ := sym_whole (by omega) (by omega) (by rw [unhide HD1]; exact hb) (unhide HX) (unhide HR2).1 (unhide HR2).2.1 p3 s3
                  exact ⟨rfl, d3, S3, permIn_trans _ _ _ _ _ (unhide HP1) f2, f1⟩)
              · have q1 : ¬ (((mid : Nat) : Int) < ((e : Nat) : Int) ∧ ((e : Nat) : Int) < ((b : Nat) : Int)) := by omega
                have q3 : (decide (((mid : Nat) : Int) < ((e : Nat) : Int)) && decide (((e : Nat) : Int) < ((b : Nat) : Int))) = false := by simp only [Bool.and_eq_false_iff, decide_eq_false_iff_not]; omega
                have s3 : Srt key tag mid b d2 := by
                  by_cases e1 : mid < e
                  · have e2 : e = b := by omega
                    subst e2; exact (unhide HR2).2.2.1
                  · have e2 : e = mid := by omega
                    subst e2; exact (unhide HR2).2.2.2.1
                have HS3 := hide s3
                clear s3
                by_cases q4 : ((mid : Nat) : Int) < ((e : Nat) : Int)
                · have q5 : ¬ ((e : Nat) : Int) < ((b : Nat) : Int) := by omega
                  go_wp2
                  all_goals (
                    go_end0
                    obtain ⟨f1, f2⟩ := sym_whole (by omega) (by omega) (by rw [unhide HD1]; exact hb) (unhide HX) (unhide HR2).1 (unhide HR2).2.1 (permIn_refl d2 mid b) (unhide HS3)
                    exact ⟨rfl, d2, S2.out, permIn_trans _ _ _ _ _ (unhide HP1) f2, f1⟩)
                · go_wp2
                  all_goals (
                    go_end0
                    obtain ⟨f1, f2⟩ := sym_whole (by omega) (by omega) (by rw [unhide HD1]; exact hb) (unhide HX) (unhide HR2).1 (unhide HR2).2.1 (permIn_refl d2 mid b) (unhide HS3)
                    exact ⟨rfl, d2, S2.out, permIn_trans _ _ _ _ _ (unhide HP1) f2, f1⟩)
            · have S2 : Aside (SWK enc k w0 blk off d wr) := S1
              clear S1
              have HD2 : Hid (d.size = N) := HD1
              have HR2 : Hid (PermIn a mid d d ∧ Srt key tag a mid d ∧ Srt key tag mid e d ∧ Srt key tag e b d ∧ Tg tag mid e b d) := ⟨permIn_refl _ _ _, (by
                  by_cases e1 : a < j
                  · have e2 : j = mid := by omega
                    subst e2; exact (unhide HR).1
                  · have e2 : j = a := by omega
                    subst e2; exact (unhide HR).2.1), (unhide HR).2.2.1, (unhide HR).2.2.2.1, (unhide HR).2.2.2.2.2⟩
              by_cases q6 : ((a : Nat) : Int) < ((j : Nat) : Int)
              · have q7 : ¬ ((j : Nat) : Int) < ((mid : Nat) : Int) := by omega
                by_cases c3 : mid < e ∧ e < b
                · have q1 : ((mid : Nat) : Int) < ((e : Nat) : Int) := by omega
                  have q2 : ((e : Nat) : Int) < ((b : Nat) : Int) := by omega
                  have hc3 := (unhide IH) mid e b d wr (by omega) (by omega) c3.2 hb (unhide HD2) S2.out ((unhide HR2).2.2.1) ((unhide HR2).2.2.2.1) ((unhide HR2).2.2.2.2)
                  go_wp2_with (go_at_fn 40; refine hc3.mono ?_; rintro e' w3 ⟨rfl, d3, S3, p3, s3⟩)
                  all_goals (
                    go_end0
                    obtain ⟨f1, f2⟩ := sym_whole (by omega) (by omega) (by rw [unhide HD1]; exact hb) (unhide HX) (unhide HR2).1 (unhide HR2).2.1 p3 s3
                    exact ⟨rfl, d3, S3, permIn_trans _ _ _ _ _ (unhide HP1) f2, f1⟩)
                · have q1 : ¬ (((mid : Nat) : Int) < ((e : Nat) : Int) ∧ ((e : Nat) : Int) < ((b : Nat) : Int)) := by omega
                  have q3 : (decide (((mid : Nat) : Int) < ((e : Nat) : Int)) && decide (((e : Nat) : Int) < ((b : Nat) : Int))) = false := by simp only [Bool.and_eq_false_iff, decide_eq_false_iff_not]; omega
                  have s3 : Srt key tag mid b d := by
                    by_cases e1 : mid < e
                    · have e2 : e = b := by omega
                      subst e2; exact (unhide HR2).2.2.1
                    · have e2 : e = mid := by omega
                      subst e2; exact (unhide HR2).2.2.2.1
                  have HS3 := hide s3
                  clear s3
                  by_cases q4 : ((mid : Nat) : Int) < ((e : Nat) : Int)
                  · have q5 : ¬ ((e : Nat) : Int) < ((b : Nat) : Int) := by omega
                    go_wp2
                    all_goals (
                      go_end0
                      obtain ⟨f1, f2⟩ := sym_whole (by omega) (by omega) (by rw [unhide HD1]; exact hb) (unhide HX) (unhide HR2).1 (unhide HR2).2.1 (permIn_refl d mid b) (unhide HS3)
                      exact ⟨rfl, d, S2.out, permIn_trans _ _ _ _ _ (unhide HP1) f2, f1⟩)
                  · go_wp2
                    all_goals (
                      go_end0
                      obtain ⟨f1, f2⟩ := sym_whole (by omega) (by omega) (by rw [unhide HD1]; exact hb) (unhide HX) (unhide HR2).1 (unhide HR2).2.1 (permIn_refl d mid b) (unhide HS3)
                      exact ⟨rfl, d, S2.out, permIn_trans _ _ _ _ _ (unhide HP1) f2, f1⟩)
              · by_cases c3 : mid < e ∧ e < b
                · have q1 : ((mid : Nat) : Int) < ((e : Nat) : Int) := by omega
                  have q2 : ((e : Nat) : Int) < ((b : Nat) : Int) := by omega
                  have hc3 := (unhide IH) mid e b d wr (by omega) (by omega) c3.2 hb (unhide HD2) S2.out ((unhide HR2).2.2.1) ((unhide HR2).2.2.2.1) ((unhide HR2).2.2.2.2)
                  go_wp2_with (go_at_fn 40; refine hc3.mono ?_; rintro e' w3 ⟨rfl, d3, S3, p3, s3⟩)
                  all_goals (
                    go_end0
                    obtain ⟨f1, f2⟩ := sym_whole (by omega) (by omega) (by rw [unhide HD1]; exact hb) (unhide HX) (unhide HR2).1 (unhide HR2).2.1 p3 s3
                    exact ⟨rfl, d3, S3, permIn_trans _ _ _ _ _ (unhide HP1) f2, f1⟩)
                · have q1 : ¬ (((mid : Nat) : Int) < ((e : Nat) : Int) ∧ ((e : Nat) : Int) < ((b : Nat) : Int)) := by omega
                  have q3 : (decide (((mid : Nat) : Int) < ((e : Nat) : Int)) && decide (((e : Nat) : Int) < ((b : Nat) : Int))) = false := by simp only [Bool.and_eq_false_iff, decide_eq_false_iff_not]; omega
                  have s3 : Srt key tag mid b d := by
                    by_cases e1 : mid < e
                    · have e2 : e = b := by omega
                      subst e2; exact (unhide HR2).2.2.1
                    · have e2 : e = mid := by omega
                      subst e2; exact (unhide HR2).2.2.2.1
                  have HS3 := hide s3
                  clear s3
                  by_cases q4 : ((mid : Nat) : Int) < ((e : Nat) : Int)
                  · have q5 : ¬ ((e : Nat) : Int) < ((b : Nat) : Int) := by omega
                    go_wp2
                    all_goals (
                      go_end0
                      obtain ⟨f1, f2⟩ := sym_whole (by omega) (by omega) (by rw [unhide HD1]; exact hb) (unhide HX) (unhide HR2).1 (unhide HR2).2.1 (permIn_refl d mid b) (unhide HS3)
                      exact ⟨rfl, d, S2.out, permIn_trans _ _ _ _ _ (unhide HP1) f2, f1⟩)
                  · go_wp2
                    all_goals (
                      go_end0
                      obtain ⟨f1, f2⟩ := sym_whole (by omega) (by omega) (by rw [unhide HD1]; exact hb) (unhide HX) (unhide HR2).1 (unhide HR2).2.1 (permIn_refl d mid b) (unhide HS3)
                      exact ⟨rfl, d, S2.out, permIn_trans _ _ _ _ _ (unhide HP1) f2, f1⟩)
  · have hmz : ¬ (mid : Int) < (m : Int) := by omega
    go_wp2
    go_loopg [20, 21] (m - a) (fun kx s10 s11 wr => ∃ i j : Nat, s10 = .int .i64 i ∧ s11 = .int .i64 j ∧ a ≤ i ∧ i ≤ j ∧ j ≤ m ∧ j - i ≤ kx ∧ Aside (SWK enc k w0 blk off d wr) ∧ Hid ((a < i → rr key tag d[i - 1]! d[mid + m - i]!) ∧ (j < m → rr key tag d[mid + m - 1 - j]! d[j]!)))
    case atStart => exact ⟨a, m, by first | rfl | go_num, by first | rfl | go_num, Nat.le_refl _, by omega, Nat.le_refl _, by omega, S0, fun h => by omega, fun h => by omega⟩
    case round =>
      clear S0
      obtain ⟨i, j, rfl, rfl, hmi, hij, hjb, hkx, S1, HI⟩ := hrel
      by_cases hlt : i < j
      · have hltz : (i : Int) < (j : Int) := by omega
        obtain ⟨h, Hh⟩ : ∃ h, Hid (h = (i + j) / 2) := ⟨_, rfl⟩
        have eH : ((i : Int) + (j : Int)) / 2 = (h : Int) := by have := unhide Hh; omega
        have h1 : i ≤ h := by have := unhide Hh; omega
        have h2 : h < j := by have := unhide Hh; omega
        obtain ⟨u, Hu⟩ : ∃ u, Hid (u = mid + m - 1 - h) := ⟨_, rfl⟩
        have eU : IntKind.i64.wrap ((mid : Int) + (m : Int) - 1 - (h : Int)) = (u : Int) := by have := unhide Hu; rw [IntKind.wrap_i64]; omega
        have hu1 : m ≤ u := by have := unhide Hu; omega
        have hu2 : u < b := by have := unhide Hu; omega
        have eu : (((u : Nat)) : Int).toNat = u := by omega
        have pu : (0 : Int) ≤ ((u : Nat) : Int) := by omega
        have bu : ((u : Nat) : Int) < (N : Int) := by omega
        have ev : (((h : Nat)) : Int).toNat = h := by omega
        have pv : (0 : Int) ≤ ((h : Nat) : Int) := by omega
        have bv : ((h : Nat) : Int) < (N : Int) := by omega
        obtain ⟨xu, hxu⟩ : ∃ x, x = d[u]! := ⟨_, rfl⟩
        obtain ⟨xv, hxv⟩ : ∃ x, x = d[h]! := ⟨_, rfl⟩
        have lu := S1.out.ld R (by have := unhide HD; omega) P u (by have := unhide HD; omega)
        have lv := S1.out.ld R (by have := unhide HD; omega) P h (by have := unhide HD; omega)
        rw [← hxu] at lu
        rw [← hxv] at lv
        have hcu := S1.out.cmp HC.out (by have := unhide HD; omega) xu xv
        have HX := hide (And.intro hxu hxv)
        clear hxu hxv
        by_cases hlv : cf xu xv < 0
        · have HLT : Hid (key d[u]! < key d[h]!) := by obtain ⟨e1, e2⟩ := unhide HX; rw [← e1, ← e2]; exact ((unhide HCF) _ _).1 hlv
          have hdv : decide (cf xu xv < 0) = true := decide_eq_true hlv
          go_wp2_with fail
          go_quiet_grown (first | (go_at_fn g; refine Calls.grown_of (hcu _ _)))
          have S2 : Aside (SWK enc k w0 blk off d (grow (wr.drewN nq) osq)) := S1.out.grown nq osq
          clear lu lv hcu S1 HX
          generalize grow (wr.drewN nq) osq = w2 at S2 ⊢
          clear nq osq
          go_wp2
          go_roundg (h - i)
          case measure => omega
          case rel => exact ⟨i, h, rfl, rfl, hmi, by omega, by omega, Nat.le_refl _, S2, (unhide HI).1, fun _ => by rw [← unhide Hu]; exact rr.of_lt (unhide HLT)⟩

        · have HLT : Hid (key d[h]! ≤ key d[u]!) := by obtain ⟨e1, e2⟩ := unhide HX; rw [← e1, ← e2]; exact Int.not_lt.1 fun h => hlv (((unhide HCF) _ _).2 h)
          have hdv : decide (cf xu xv < 0) = false := decide_eq_false hlv
          go_wp2_with fail
          go_quiet_grown (first | (go_at_fn g; refine Calls.grown_of (hcu _ _)))
          have S2 : Aside (SWK enc k w0 blk off d (grow (wr.drewN nq) osq)) := S1.out.grown nq osq
          clear lu lv hcu S1 HX
          generalize grow (wr.drewN nq) osq = w2 at S2 ⊢
          clear nq osq
          go_wp2
          go_roundg (j - (h + 1))
          case measure => omega
          case rel => exact ⟨h + 1, j, by first | rfl | go_num, rfl, by omega, by omega, hjb, Nat.le_refl _, S2, fun _ => by rw [Nat.add_sub_cancel, show mid + m - (h + 1) = u from by have := unhide Hu; omega]; exact rr.of_not (Int.not_lt.2 (unhide HLT)) ((unhide HG) h u (by omega) (by omega) hu1 hu2), (unhide HI).2⟩
      · have hltz : ¬ (i : Int) < (j : Int) := by omega
        have hj : j = i := by omega
        subst hj
        obtain ⟨e, He⟩ : ∃ e, e = mid + m - j := ⟨_, rfl⟩
        have eE : IntKind.i64.wrap ((mid : Int) + (m : Int) - (j : Int)) = (e : Int) := by rw [IntKind.wrap_i64]; omega
        have HI2 : Hid ((a < j → e < b → rr key tag d[j - 1]! d[e]!) ∧ (j < m → m < e → rr key tag d[e - 1]! d[j]!)) := ⟨fun g1 g2 => by rw [He]; exact (unhide HI).1 (by omega), fun g1 g2 => by rw [show e - 1 = mid + m - 1 - j from by omega]; exact (unhide HI).2 (by omega)⟩
        have l1 : a ≤ j := by omega
        have l2 : j ≤ m := by omega
        have l3 : m ≤ e := by omega
        have l4 : e ≤ b := by omega
        have l5 : j ≤ mid := by omega
        have l6 : mid ≤ e := by omega
        have l7 : mid + m = j + e := by omega
        have HE := hide He
        clear He HI
        have HI := HI2
        clear HI2
        by_cases c1 : j < m ∧ m < e
        · have q1 : ((j : Nat) : Int) < ((m : Nat) : Int) := by omega
          have q2 : ((m : Nat) : Int) < ((e : Nat) : Int) := by omega
          have hc1 := rotate_any L (.func (.func g) #[] cb) blk off cap j m e N d0 d w0 wr R hs (unhide HD) S1.out c1.1 c1.2 (by omega) (by omega)
          go_wp2_with fail
          refine hc1.mono ?_
          rintro e' w1 ⟨rfl, d1, S1', p1, hd1⟩
          clear S1 q1 q2
          have S1 : Aside (SWK enc k w0 blk off d1 w1) := S1'
          have HD1 : Hid (d1.size = N) := p1.1.trans (unhide HD)
          have HP1 : Hid (PermIn a b d d1) := permIn_mono _ _ _ _ _ _ (by omega) (by omega) (by rw [unhide HD]; exact hb) p1
          clear S1' p1

          have HX : Hid (∀ i j, a ≤ i → i < mid → mid ≤ j → j < b → rr key tag d1[i]! d1[j]!) := fun i j g1 g2 g3 g4 => sym_cross (unhide HS).1 (unhide HS).2 (by omega) (by omega) (by omega) (by omega) (by omega) hd1 (unhide HI).1 (unhide HI).2 i j g1 g2 g3 g4
          have HR : Hid (Srt key tag a j d1 ∧ Srt key tag j mid d1 ∧ Srt key tag mid e d1 ∧ Srt key tag e b d1 ∧ Tg tag a j mid d1 ∧ Tg tag mid e b d1) := sym_rest (unhide HS).1 (unhide HS).2 (unhide HG) (by omega) (by omega) (by omega) (by omega) (by omega) hd1
          clear hd1
          by_cases c2 : a < j ∧ j < mid
          · have q1 : ((a : Nat) : Int) < ((j : Nat) : Int) := by omega
            have q2 : ((j : Nat) : Int) < ((mid : Nat) : Int) := by omega
            have hc2 := (unhide IH) a j mid d1 w1 (by omega) c2.1 c2.2 (by omega) (unhide HD1) S1.out ((unhide HR).1) ((unhide HR).2.1) ((unhide HR).2.2.2.2.1)
            go_wp2_with fail
            refine hc2.mono ?_
            rintro e' w2 ⟨rfl, d2, S2', p2, s2⟩
            have S2 : Aside (SWK enc k w0 blk off d2 w2) := S2'
            have HD2 : Hid (d2.size = N) := p2.1.trans (unhide HD1)
            have HR2 : Hid (PermIn a mid d1 d2 ∧ Srt key tag a mid d2 ∧ Srt key tag mid e d2 ∧ Srt key tag e b d2 ∧ Tg tag mid e b d2) := ⟨p2, s2, fun pp qq g1 g2 g3 => by rw [perm_out p2 pp (.inr (by omega)), perm_out p2 qq (.inr (by omega))]; exact (unhide HR).2.2.1 pp qq g1 g2 g3, fun pp qq g1 g2 g3 => by rw [perm_out p2 pp (.inr (by omega)), perm_out p2 qq (.inr (by omega))]; exact (unhide HR).2.2.2.1 pp qq g1 g2 g3, fun pp qq g1 g2 g3 g4 => by rw [perm_out p2 pp (.inr (by omega)), perm_out p2 qq (.inr (by omega))]; exact (unhide HR).2.2.2.2.2 pp qq g1 g2 g3 g4⟩
            clear S1 S2' p2 s2 q1 q2
            by_cases c3 : mid < e ∧ e < b
            · have q1 : ((mid : Nat) : Int) < ((e : Nat) : Int) := by omega
              have q2 : ((e : Nat) : Int) < ((b : Nat) : Int) := by omega
              have hc3 := (unhide IH) mid e b d2 w2 (by omega) (by omega) c3.2 hb (unhide HD2) S2.out ((unhide HR2).2.2.1) ((unhide HR2).2.2.2.1) ((unhide HR2).2.2.2.2)
              go_wp2_with (go_at_fn 40; refine hc3.mono ?_; rintro e' w3 ⟨rfl, d3, S3, p3, s3⟩)
              all_goals (
                go_end0
                obtain ⟨f1, f2⟩ := sym_whole (by omega) (by omega) (by rw [unhide HD1]; exact hb) (unhide HX) (unhide HR2).1 (unhide HR2).2.1 p3 s3
                exact ⟨rfl, d3, S3, permIn_trans _ _ _ _ _ (unhide HP1) f2, f1⟩)
            · have q1 : ¬ (((mid : Nat) : Int) < ((e : Nat) : Int) ∧ ((e : Nat) : Int) < ((b : Nat) : Int)) := by omega
              have q3 : (decide (((mid : Nat) : Int) < ((e : Nat) : Int)) && decide (((e : Nat) : Int) < ((b : Nat) : Int))) = false := by simp only [Bool.and_eq_false_iff, decide_eq_false_iff_not]; omega
              have s3 : Srt key tag mid b d2 := by
                by_cases e1 : mid < e
                · have e2 : e = b := by omega
                  subst e2; exact (unhide HR2).2.2.1
                · have e2 : e = mid := by omega
                  subst e2; exact (unhide HR2).2.2.2.1
              have HS3 := hide s3
              clear s3
              by_cases q4 : ((mid : Nat) : Int) < ((e : Nat) : Int)
              · have q5 : ¬ ((e : Nat) : Int) < ((b : Nat) : Int) := by omega
                go_wp2
                all_goals (
                  go_end0
                  obtain ⟨f1, f2⟩ := sym_whole (by omega) (by omega) (by rw [unhide HD1]; exact hb) (unhide HX) (unhide HR2).1 (unhide HR2).2.1 (permIn_refl d2 mid b) (unhide HS3)
                  exact ⟨rfl, d2, S2.out, permIn_trans _ _ _ _ _ (unhide HP1) f2, f1⟩)
              · go_wp2
                all_goals (
                  go_end0
                  obtain ⟨f1, f2⟩ := sym_whole (by omega) (by omega) (by rw [unhide HD1]; exact hb) (unhide HX) (unhide HR2).1 (unhide HR2).2.1 (permIn_refl d2 mid b) (unhide HS3)
                  exact ⟨rfl, d2, S2.out, permIn_trans _ _ _ _ _ (unhide HP1) f2, f1⟩)
          · have S2 : Aside (SWK enc k w0 blk off d1 w1) := S1
            clear S1
            have HD2 : Hid (d1.size = N) := HD1
            have HR2 : Hid (PermIn a mid d1 d1 ∧ Srt key tag a mid d1 ∧ Srt key tag mid e d1 ∧ Srt key tag e b d1 ∧ Tg tag mid e b d1) := ⟨permIn_refl _ _ _, (by
                by_cases e1 : a < j
                · have e2 : j = mid := by omega
                  subst e2; exact (unhide HR).1
                · have e2 : j = a := by omega
                  subst e2; exact (unhide HR).2.1), (unhide HR).2.2.1, (unhide HR).2.2.2.1, (unhide HR).2.2.2.2.2⟩
            by_cases q6 : ((a : Nat) : Int) < ((j : Nat) : Int)
            · have q7 : ¬ ((j : Nat) : Int) < ((mid : Nat) : Int) := by omega
              by_cases c3 : mid < e ∧ e < b
              · have q1 : ((mid : Nat) : Int) < ((e : Nat) : Int) := by omega
                have q2 : ((e : Nat) : Int) < ((b : Nat) : Int) := by omega
                have hc3 := (unhide IH) mid e b d1 w1 (by omega) (by omega) c3.2 hb (unhide HD2) S2.out ((unhide HR2).2.2.1) ((unhide HR2).2.2.2.1) ((unhide HR2).2.2.2.2)
                go_wp2_with (go_at_fn 40; refine hc3.mono ?_; rintro e' w3 ⟨rfl, d3, S3, p3, s3⟩)
                all_goals (
                  go_end0
                  obtain ⟨f1, f2⟩ := sym_whole (by omega) (by omega) (by rw [unhide HD1]; exact hb) (unhide HX) (unhide HR2).1 (unhide HR2).2.1 p3 s3
                  exact ⟨rfl, d3, S3, permIn_trans _ _ _ _ _ (unhide HP1) f2, f1⟩)
              · have q1 : ¬ (((mid : Nat) : Int) < ((e : Nat) : Int) ∧ ((e : Nat) : Int) < ((b : Nat) : Int)) := by omega
                have q3 : (decide (((mid : Nat) : Int) < ((e : Nat) : Int)) && decide (((e : Nat) : Int) < ((b : Nat) : Int))) = false := by simp only [Bool.and_eq_false_iff, decide_eq_false_iff_not]; omega
                have s3 : Srt key tag mid b d1 := by
                  by_cases e1 : mid < e
                  · have e2 : e = b := by omega
                    subst e2; exact (unhide HR2).2.2.1
                  · have e2 : e = mid := by omega
                    subst e2; exact (unhide HR2).2.2.2.1
                have HS3 := hide s3
                clear s3
                by_cases q4 : ((mid : Nat) : Int) < ((e : Nat) : Int)
                · have q5 : ¬ ((e : Nat) : Int) < ((b : Nat) : Int) := by omega
                  go_wp2
                  all_goals (
                    go_end0
                    obtain ⟨f1, f2⟩ := sym_whole (by omega) (by omega) (by rw [unhide HD1]; exact hb) (unhide HX) (unhide HR2).1 (unhide HR2).2.1 (permIn_refl d1 mid b) (unhide HS3)
                    exact ⟨rfl, d1, S2.out, permIn_trans _ _ _ _ _ (unhide HP1) f2, f1⟩)
                · go_wp2
                  all_goals (
                    go_end0
                    obtain ⟨f1, f2⟩ := sym_whole (by omega) (by omega) (by rw [unhide HD1]; exact hb) (unhide HX) (unhide HR2).1 (unhide HR2).2.1 (permIn_refl d1 mid b) (unhide HS3)
                    exact ⟨rfl, d1, S2.out, permIn_trans _ _ _ _ _ (unhide HP1) f2, f1⟩)
            · by_cases c3 : mid < e ∧ e < b
              · have q1 : ((mid : Nat) : Int) < ((e : Nat) : Int) := by omega
                have q2 : ((e : Nat) : Int) < ((b : Nat) : Int) := by omega
                have hc3 := (unhide IH) mid e b d1 w1 (by omega) (by omega) c3.2 hb (unhide HD2) S2.out ((unhide HR2).2.2.1) ((unhide HR2).2.2.2.1) ((unhide HR2).2.2.2.2)
                go_wp2_with (go_at_fn 40; refine hc3.mono ?_; rintro e' w3 ⟨rfl, d3, S3, p3, s3⟩)
                all_goals (
                  go_end0
                  obtain ⟨f1, f2⟩ := sym_whole (by omega) (by omega) (by rw [unhide HD1]; exact hb) (unhide HX) (unhide HR2).1 (unhide HR2).2.1 p3 s3
                  exact ⟨rfl, d3, S3, permIn_trans _ _ _ _ _ (unhide HP1) f2, f1⟩)
              · have q1 : ¬ (((mid : Nat) : Int) < ((e : Nat) : Int) ∧ ((e : Nat) : Int) < ((b : Nat) : Int)) := by omega
                have q3 : (decide (((mid : Nat) : Int) < ((e : Nat) : Int)) && decide (((e : Nat) : Int) < ((b : Nat) : Int))) = false := by simp only [Bool.and_eq_false_iff, decide_eq_false_iff_not]; omega
                have s3 : Srt key tag mid b d1 := by
                  by_cases e1 : mid < e
                  · have e2 : e = b := by omega
                    subst e2; exact (unhide HR2).2.2.1
                  · have e2 : e = mid := by omega
                    subst e2; exact (unhide HR2).2.2.2.1
                have HS3 := hide s3
                clear s3
                by_cases q4 : ((mid : Nat) : Int) < ((e : Nat) : Int)
                · have q5 : ¬ ((e : Nat) : Int) < ((b : Nat) : Int) := by omega
                  go_wp2
                  all_goals (
                    go_end0
                    obtain ⟨f1, f2⟩ := sym_whole (by omega) (by omega) (by rw [unhide HD1]; exact hb) (unhide HX) (unhide HR2).1 (unhide HR2).2.1 (permIn_refl d1 mid b) (unhide HS3)
                    exact ⟨rfl, d1, S2.out, permIn_trans _ _ _ _ _ (unhide HP1) f2, f1⟩)
                · go_wp2
                  all_goals (
                    go_end0
                    obtain ⟨f1, f2⟩ := sym_whole (by omega) (by omega) (by rw [unhide HD1]; exact hb) (unhide HX) (unhide HR2).1 (unhide HR2).2.1 (permIn_refl d1 mid b) (unhide HS3)
                    exact ⟨rfl, d1, S2.out, permIn_trans _ _ _ _ _ (unhide HP1) f2, f1⟩)
        · have hd1 : ∀ x, d[x]! = rot d j m e x := fun x => rot_id (by omega) (by omega) (by omega) x
          have HD1 : Hid (d.size = N) := HD
          have HP1 : Hid (PermIn a b d d) := permIn_refl _ _ _

          have HX : Hid (∀ i j, a ≤ i → i < mid → mid ≤ j → j < b → rr key tag d[i]! d[j]!) := fun i j g1 g2 g3 g4 => sym_cross (unhide HS).1 (unhide HS).2 (by omega) (by omega) (by omega) (by omega) (by omega) hd1 (unhide HI).1 (unhide HI).2 i j g1 g2 g3 g4
          have HR : Hid (Srt key tag a j d ∧ Srt key tag j mid d ∧ Srt key tag mid e d ∧ Srt key tag e b d ∧ Tg tag a j mid d ∧ Tg tag mid e b d) := sym_rest (unhide HS).1 (unhide HS).2 (unhide HG) (by omega) (by omega) (by omega) (by omega) (by omega) hd1
          clear hd1

          by_cases q8 : ((j : Nat) : Int) < ((m : Nat) : Int)
          · have q9 : ¬ ((m : Nat) : Int) < ((e : Nat) : Int) := by omega
            by_cases c2 : a < j ∧ j < mid
            · have q1 : ((a : Nat) : Int) < ((j : Nat) : Int) := by omega
              have q2 : ((j : Nat) : Int) < ((mid : Nat) : Int) := by omega
              have hc2 := (unhide IH) a j mid d wr (by omega) c2.1 c2.2 (by omega) (unhide HD1) S1.out ((unhide HR).1) ((unhide HR).2.1) ((unhide HR).2.2.2.2.1)
              go_wp2_with fail
              refine hc2.mono ?_
              rintro e' w2 ⟨rfl, d2, S2', p2, s2⟩
              have S2 : Aside (SWK enc k w0 blk off d2 w2) := S2'
              have HD2 : Hid (d2.size = N) := p2.1.trans (unhide HD1)
              have HR2 : Hid (PermIn a mid d d2 ∧ Srt key tag a mid d2 ∧ Srt key tag mid e d2 ∧ Srt key tag e b d2 ∧ Tg tag mid e b d2) := ⟨p2, s2, fun pp qq g1 g2 g3 => by rw [perm_out p2 pp (.inr (by omega)), perm_out p2 qq (.inr (by omega))]; exact (unhide HR).2.2.1 pp qq g1 g2 g3, fun pp qq g1 g2 g3 => by rw [perm_out p2 pp (.inr (by omega)), perm_out p2 qq (.inr (by omega))]; exact (unhide HR).2.2.2.1 pp qq g1 g2 g3, fun pp qq g1 g2 g3 g4 => by rw [perm_out p2 pp (.inr (by omega)), perm_out p2 qq (.inr (by omega))]; exact (unhide HR).2.2.2.2.2 pp qq g1 g2 g3 g4⟩
              clear S1 S2' p2 s2 q1 q2
              by_cases c3 : mid < e ∧ e < b
              · have q1 : ((mid : Nat) : Int) < ((e : Nat) : Int) := by omega
                have q2 : ((e : Nat) : Int) < ((b : Nat) : Int) := by omega
                have hc3 := (unhide IH) mid e b d2 w2 (by omega) (by omega) c3.2 hb (unhide HD2) S2.out ((unhide HR2).2.2.1) ((unhide HR2).2.2.2.1) ((unhide HR2).2.2.2.2)
                go_wp2_with (go_at_fn 40; refine hc3.mono ?_; rintro e' w3 ⟨rfl, d3, S3, p3, s3⟩)
                all_goals (
                  go_end0
                  obtain ⟨f1, f2⟩ := sym_whole (by omega) (by omega) (by rw [unhide HD1]; exact hb) (unhide HX) (unhide HR2).1 (unhide HR2).2.1 p3 s3
                  exact ⟨rfl, d3, S3, permIn_trans _ _ _ _ _ (unhide HP1) f2, f1⟩)
              · have q1 : ¬ (((mid : Nat) : Int) < ((e : Nat) : Int) ∧ ((e : Nat) : Int) < ((b : Nat) : Int)) := by omega
                have q3 : (decide (((mid : Nat) : Int) < ((e : Nat) : Int)) && decide (((e : Nat) : Int) < ((b : Nat) : Int))) = false := by simp only [Bool.and_eq_false_iff, decide_eq_false_iff_not]; omega
                have s3 : Srt key tag mid b d2 := by
                  by_cases e1 : mid < e
                  · have e2 : e = b := by omega
                    subst e2; exact (unhide HR2).2.2.1
                  · have e2 : e = mid := by omega
                    subst e2; exact (unhide HR2).2.2.2.1
                have HS3 := hide s3
                clear s3
                by_cases q4 : ((mid : Nat) : Int) < ((e : Nat) : Int)
                · have q5 : ¬ ((e : Nat) : Int) < ((b : Nat) : Int) := by omega
                  go_wp2
                  all_goals (
                    go_end0
                    obtain ⟨f1, f2⟩ := sym_whole (by omega) (by omega) (by rw [unhide HD1]; exact hb) (unhide HX) (unhide HR2).1 (unhide HR2).2.1 (permIn_refl d2 mid b) (unhide HS3)
                    exact ⟨rfl, d2, S2.out, permIn_trans _ _ _ _ _ (unhide HP1) f2, f1⟩)
                · go_wp2
                  all_goals (
                    go_end0
                    obtain ⟨f1, f2⟩ := sym_whole (by omega) (by omega) (by rw [unhide HD1]; exact hb) (unhide HX) (unhide HR2).1 (unhide HR2).2.1 (permIn_refl d2 mid b) (unhide HS3)
                    exact ⟨rfl, d2, S2.out, permIn_trans _ _ _ _ _ (unhide HP1) f2, f1⟩)
            · have S2 : Aside (SWK enc k w0 blk off d wr) := S1
              clear S1
              have HD2 : Hid (d.size = N) := HD1
              have HR2 : Hid (PermIn a mid d d ∧ Srt key tag a mid d ∧ Srt key tag mid e d ∧ Srt key tag e b d ∧ Tg tag mid e b d) := ⟨permIn_refl _ _ _, (by
                  by_cases e1 : a < j
                  · have e2 : j = mid := by omega
                    subst e2; exact (unhide HR).1
                  · have e2 : j = a := by omega
                    subst e2; exact (unhide HR).2.1), (unhide HR).2.2.1, (unhide HR).2.2.2.1, (unhide HR).2.2.2.2.2⟩
              by_cases q6 : ((a : Nat) : Int) < ((j : Nat) : Int)
              · have q7 : ¬ ((j : Nat) : Int) < ((mid : Nat) : Int) := by omega
                by_cases c3 : mid < e ∧ e < b
                · have q1 : ((mid : Nat) : Int) < ((e : Nat) : Int) := by omega
                  have q2 : ((e : Nat) : Int) < ((b : Nat) : Int) := by omega
                  have hc3 := (unhide IH) mid e b d wr (by omega) (by omega) c3.2 hb (unhide HD2) S2.out ((unhide HR2).2.2.1) ((unhide HR2).2.2.2.1) ((unhide HR2).2.2.2.2)
                  go_wp2_with (go_at_fn 40; refine hc3.mono ?_; rintro e' w3 ⟨rfl, d3, S3, p3, s3⟩)
                  all_goals (
                    go_end0
                    obtain ⟨f1, f2⟩ := sym_whole (by omega) (by omega) (by rw [unhide HD1]; exact hb) (unhide HX) (unhide HR2).1 (unhide HR2).2.1 p3 s3
                    exact ⟨rfl, d3, S3, permIn_trans _ _ _ _ _ (unhide HP1) f2, f1⟩)
                · have q1 : ¬ (((mid : Nat) : Int) < ((e : Nat) : Int) ∧ ((e : Nat) : Int) < ((b : Nat) : Int)) := by omega
                  have q3 : (decide (((mid : Nat) : Int) < ((e : Nat) : Int)) && decide (((e : Nat) : Int) < ((b : Nat) : Int))) = false := by simp only [Bool.and_eq_false_iff, decide_eq_false_iff_not]; omega
                  have s3 : Srt key tag mid b d := by
                    by_cases e1 : mid < e
                    · have e2 : e = b := by omega
                      subst e2; exact (unhide HR2).2.2.1
                    · have e2 : e = mid := by omega
                      subst e2; exact (unhide HR2).2.2.2.1
                  have HS3 := hide s3
                  clear s3
                  by_cases q4 : ((mid : Nat) : Int) < ((e : Nat) : Int)
                  · have q5 : ¬ ((e : Nat) : Int) < ((b : Nat) : Int) := by omega
                    go_wp2
                    all_goals (
                      go_end0
                      obtain ⟨f1, f2⟩ := sym_whole (by omega) (by omega) (by rw [unhide HD1]; exact hb) (unhide HX) (unhide HR2).1 (unhide HR2).2.1 (permIn_refl d mid b) (unhide HS3)
                      exact ⟨rfl, d, S2.out, permIn_trans _ _ _ _ _ (unhide HP1) f2, f1⟩)
                  · go_wp2
                    all_goals (
                      go_end0
                      obtain ⟨f1, f2⟩ := sym_whole (by omega) (by omega) (by rw [unhide HD1]; exact hb) (unhide HX) (unhide HR2).1 (unhide HR2).2.1 (permIn_refl d mid b) (unhide HS3)
                      exact ⟨rfl, d, S2.out, permIn_trans _ _ _ _ _ (unhide HP1) f2, f1⟩)
              · by_cases c3 : mid < e ∧ e < b
                · have q1 : ((mid : Nat) : Int) < ((e : Nat) : Int) := by omega
                  have q2 : ((e : Nat) : Int) < ((b : Nat) : Int) := by omega
                  have hc3 := (unhide IH) mid e b d wr (by omega) (by omega) c3.2 hb (unhide HD2) S2.out ((unhide HR2).2.2.1) ((unhide HR2).2.2.2.1) ((unhide HR2).2.2.2.2)
                  go_wp2_with (go_at_fn 40; refine hc3.mono ?_; rintro e' w3 ⟨rfl, d3, S3, p3, s3⟩)
                  all_goals (
                    go_end0
                    obtain ⟨f1, f2⟩ := sym_whole (by omega) (by omega) (by rw [unhide HD1]; exact hb) (unhide HX) (unhide HR2).1 (unhide HR2).2.1 p3 s3
                    exact ⟨rfl, d3, S3, permIn_trans _ _ _ _ _ (unhide HP1) f2, f1⟩)
                · have q1 : ¬ (((mid : Nat) : Int) < ((e : Nat) : Int) ∧ ((e : Nat) : Int) < ((b : Nat) : Int)) := by omega
                  have q3 : (decide (((mid : Nat) : Int) < ((e : Nat) : Int)) && decide (((e : Nat) : Int) < ((b : Nat) : Int))) = false := by simp only [Bool.and_eq_false_iff, decide_eq_false_iff_not]; omega
                  have s3 : Srt key tag mid b d := by
                    by_cases e1 : mid < e
                    · have e2 : e = b := by omega
                      subst e2; exact (unhide HR2).2.2.1
                    · have e2 : e = mid := by omega
                      subst e2; exact (unhide HR2).2.2.2.1
                  have HS3 := hide s3
                  clear s3
                  by_cases q4 : ((mid : Nat) : Int) < ((e : Nat) : Int)
                  · have q5 : ¬ ((e : Nat) : Int) < ((b : Nat) : Int) := by omega
                    go_wp2
                    all_goals (
                      go_end0
                      obtain ⟨f1, f2⟩ := sym_whole (by omega) (by omega) (by rw [unhide HD1]; exact hb) (unhide HX) (unhide HR2).1 (unhide HR2).2.1 (permIn_refl d mid b) (unhide HS3)
                      exact ⟨rfl, d, S2.out, permIn_trans _ _ _ _ _ (unhide HP1) f2, f1⟩)
                  · go_wp2
                    all_goals (
                      go_end0
                      obtain ⟨f1, f2⟩ := sym_whole (by omega) (by omega) (by rw [unhide HD1]; exact hb) (unhide HX) (unhide HR2).1 (unhide HR2).2.1 (permIn_refl d mid b) (unhide HS3)
                      exact ⟨rfl, d, S2.out, permIn_trans _ _ _ _ _ (unhide HP1) f2, f1⟩)
          · by_cases c2 : a < j ∧ j < mid
            · have q1 : ((a : Nat) : Int) < ((j : Nat) : Int) := by omega
              have q2 : ((j : Nat) : Int) < ((mid : Nat) : Int) := by omega
              have hc2 := (unhide IH) a j mid d wr (by omega) c2.1 c2.2 (by omega) (unhide HD1) S1.out ((unhide HR).1) ((unhide HR).2.1) ((unhide HR).2.2.2.2.1)
              go_wp2_with fail
              refine hc2.mono ?_
              rintro e' w2 ⟨rfl, d2, S2', p2, s2⟩
              have S2 : Aside (SWK enc k w0 blk off d2 w2) := S2'
              have HD2 : Hid (d2.size = N) := p2.1.trans (unhide HD1)
              have HR2 : Hid (PermIn a mid d d2 ∧ Srt key tag a mid d2 ∧ Srt key tag mid e d2 ∧ Srt key tag e b d2 ∧ Tg tag mid e b d2) := ⟨p2, s2, fun pp qq g1 g2 g3 => by rw [perm_out p2 pp (.inr (by omega)), perm_out p2 qq (.inr (by omega))]; exact (unhide HR).2.2.1 pp qq g1 g2 g3, fun pp qq g1 g2 g3 => by rw [perm_out p2 pp (.inr (by omega)), perm_out p2 qq (.inr (by omega))]; exact (unhide HR).2.2.2.1 pp qq g1 g2 g3, fun pp qq g1 g2 g3 g4 => by rw [perm_out p2 pp (.inr (by omega)), perm_out p2 qq (.inr (by omega))]; exact (unhide HR).2.2.2.2.2 pp qq g1 g2 g3 g4⟩
              clear S1 S2' p2 s2 q1 q2
              by_cases c3 : mid < e ∧ e < b
              · have q1 : ((mid : Nat) : Int) < ((e : Nat) : Int) := by omega
                have q2 : ((e : Nat) : Int) < ((b : Nat) : Int) := by omega
                have hc3 := (unhide IH) mid e b d2 w2 (by omega) (by omega) c3.2 hb (unhide HD2) S2.out ((unhide HR2).2.2.1) ((unhide HR2).2.2.2.1) ((unhide HR2).2.2.2.2)
                go_wp2_with (go_at_fn 40; refine hc3.mono ?_; rintro e' w3 ⟨rfl, d3, S3, p3, s3⟩)
                all_goals (
                  go_end0
                  obtain ⟨f1, f2⟩ := sym_whole (by omega) (by omega) (by rw [unhide HD1]; exact hb) (unhide HX) (unhide HR2).1 (unhide HR2).2.1 p3 s3
                  exact ⟨rfl, d3, S3, permIn_trans _ _ _ _ _ (unhide HP1) f2, f1⟩)
              · have q1 : ¬ (((mid : Nat) : Int) < ((e : Nat) : Int) ∧ ((e : Nat) : Int) < ((b : Nat) : Int)) := by omega
                have q3 : (decide (((mid : Nat) : Int) < ((e : Nat) : Int)) && decide (((e : Nat) : Int) < ((b : Nat) : Int))) = false := by simp only [Bool.and_eq_false_iff, decide_eq_false_iff_not]; omega
                have s3 : Srt key tag mid b d2 := by
                  by_cases e1 : mid < e
                  · have e2 : e = b := by omega
                    subst e2; exact (unhide HR2).2.2.1
                  · have e2 : e = mid := by omega
                    subst e2; exact (unhide HR2).2.2.2.1
                have HS3 := hide s3
                clear s3
                by_cases q4 : ((mid : Nat) : Int) < ((e : Nat) : Int)
                · have q5 : ¬ ((e : Nat) : Int) < ((b : Nat) : Int) := by omega
                  go_wp2
                  all_goals (
                    go_end0
                    obtain ⟨f1, f2⟩ := sym_whole (by omega) (by omega) (by rw [unhide HD1]; exact hb) (unhide HX) (unhide HR2).1 (unhide HR2).2.1 (permIn_refl d2 mid b) (unhide HS3)
                    exact ⟨rfl, d2, S2.out, permIn_trans _ _ _ _ _ (unhide HP1) f2, f1⟩)
                · go_wp2
                  all_goals (
                    go_end0
                    obtain ⟨f1, f2⟩ := sym_whole (by omega) (by omega) (by rw [unhide HD1]; exact hb) (unhide HX) (unhide HR2).1 (unhide HR2).2.1 (permIn_refl d2 mid b) (unhide HS3)
                    exact ⟨rfl, d2, S2.out, permIn_trans _ _ _ _ _ (unhide HP1) f2, f1⟩)
            · have S2 : Aside (SWK enc k w0 blk off d wr) := S1
              clear S1
              have HD2 : Hid (d.size = N) := HD1
              have HR2 : Hid (PermIn a mid d d ∧ Srt key tag a mid d ∧ Srt key tag mid e d ∧ Srt key tag e b d ∧ Tg tag mid e b d) := ⟨permIn_refl _ _ _, (by
                  by_cases e1 : a < j
                  · have e2 : j = mid := by omega
                    subst e2; exact (unhide HR).1
                  · have e2 : j = a := by omega
                    subst e2; exact (unhide HR).2.1), (unhide HR).2.2.1, (unhide HR).2.2.2.1, (unhide HR).2.2.2.2.2⟩
              by_cases q6 : ((a : Nat) : Int) < ((j : Nat) : Int)
              · have q7 : ¬ ((j : Nat) : Int) < ((mid : Nat) : Int) := by omega
                by_cases c3 : mid < e ∧ e < b
                · have q1 : ((mid : Nat) : Int) < ((e : Nat) : Int) := by omega
                  have q2 : ((e : Nat) : Int) < ((b : Nat) : Int) := by omega
                  have hc3 := (unhide IH) mid e b d wr (by omega) (by omega) c3.2 hb (unhide HD2) S2.out ((unhide HR2).2.2.1) ((unhide HR2).2.2.2.1) ((unhide HR2).2.2.2.2)
                  go_wp2_with (go_at_fn 40; refine hc3.mono ?_; rintro e' w3 ⟨rfl, d3, S3, p3, s3⟩)
                  all_goals (
                    go_end0
                    obtain ⟨f1, f2⟩ := sym_whole (by omega) (by omega) (by rw [unhide HD1]; exact hb) (unhide HX) (unhide HR2).1 (unhide HR2).2.1 p3 s3
                    exact ⟨rfl, d3, S3, permIn_trans _ _ _ _ _ (unhide HP1) f2, f1⟩)
                · have q1 : ¬ (((mid : Nat) : Int) < ((e : Nat) : Int) ∧ ((e : Nat) : Int) < ((b : Nat) : Int)) := by omega
                  have q3 : (decide (((mid : Nat) : Int) < ((e : Nat) : Int)) && decide (((e : Nat) : Int) < ((b : Nat) : Int))) = false := by simp only [Bool.and_eq_false_iff, decide_eq_false_iff_not]; omega
                  have s3 : Srt key tag mid b d := by
                    by_cases e1 : mid < e
                    · have e2 : e = b := by omega
                      subst e2; exact (unhide HR2).2.2.1
                    · have e2 : e = mid := by omega
                      subst e2; exact (unhide HR2).2.2.2.1
                  have HS3 := hide s3
                  clear s3
                  by_cases q4 : ((mid : Nat) : Int) < ((e : Nat) : Int)
                  · have q5 : ¬ ((e : Nat) : Int) < ((b : Nat) : Int) := by omega
                    go_wp2
                    all_goals (
                      go_end0
                      obtain ⟨f1, f2⟩ := sym_whole (by omega) (by omega) (by rw [unhide HD1]; exact hb) (unhide HX) (unhide HR2).1 (unhide HR2).2.1 (permIn_refl d mid b) (unhide HS3)
                      exact ⟨rfl, d, S2.out, permIn_trans _ _ _ _ _ (unhide HP1) f2, f1⟩)
                  · go_wp2
                    all_goals (
                      go_end0
                      obtain ⟨f1, f2⟩ := sym_whole (by omega) (by omega) (by rw [unhide HD1]; exact hb) (unhide HX) (unhide HR2).1 (unhide HR2).2.1 (permIn_refl d mid b) (unhide HS3)
                      exact ⟨rfl, d, S2.out, permIn_trans _ _ _ _ _ (unhide HP1) f2, f1⟩)
              · by_cases c3 : mid < e ∧ e < b
                · have q1 : ((mid : Nat) : Int) < ((e : Nat) : Int) := by omega
                  have q2 : ((e : Nat) : Int) < ((b : Nat) : Int) := by omega
                  have hc3 := (unhide IH) mid e b d wr (by omega) (by omega) c3.2 hb (unhide HD2) S2.out ((unhide HR2).2.2.1) ((unhide HR2).2.2.2.1) ((unhide HR2).2.2.2.2)
                  go_wp2_with (go_at_fn 40; refine hc3.mono ?_; rintro e' w3 ⟨rfl, d3, S3, p3, s3⟩)
                  all_goals (
                    go_end0
                    obtain ⟨f1, f2⟩ := sym_whole (by omega) (by omega) (by rw [unhide HD1]; exact hb) (unhide HX) (unhide HR2).1 (unhide HR2).2.1 p3 s3
                    exact ⟨rfl, d3, S3, permIn_trans _ _ _ _ _ (unhide HP1) f2, f1⟩)
                · have q1 : ¬ (((mid : Nat) : Int) < ((e : Nat) : Int) ∧ ((e : Nat) : Int) < ((b : Nat) : Int)) := by omega
                  have q3 : (decide (((mid : Nat) : Int) < ((e : Nat) : Int)) && decide (((e : Nat) : Int) < ((b : Nat) : Int))) = false := by simp only [Bool.and_eq_false_iff, decide_eq_false_iff_not]; omega
                  have s3 : Srt key tag mid b d := by
                    by_cases e1 : mid < e
                    · have e2 : e = b := by omega
                      subst e2; exact (unhide HR2).2.2.1
                    · have e2 : e = mid := by omega
                      subst e2; exact (unhide HR2).2.2.2.1
                  have HS3 := hide s3
                  clear s3
                  by_cases q4 : ((mid : Nat) : Int) < ((e : Nat) : Int)
                  · have q5 : ¬ ((e : Nat) : Int) < ((b : Nat) : Int) := by omega
                    go_wp2
                    all_goals (
                      go_end0
                      obtain ⟨f1, f2⟩ := sym_whole (by omega) (by omega) (by rw [unhide HD1]; exact hb) (unhide HX) (unhide HR2).1 (unhide HR2).2.1 (permIn_refl d mid b) (unhide HS3)
                      exact ⟨rfl, d, S2.out, permIn_trans _ _ _ _ _ (unhide HP1) f2, f1⟩)
                  · go_wp2
                    all_goals (
                      go_end0
                      obtain ⟨f1, f2⟩ := sym_whole (by omega) (by omega) (by rw [unhide HD1]; exact hb) (unhide HX) (unhide HR2).1 (unhide HR2).2.1 (permIn_refl d mid b) (unhide HS3)
                      exact ⟨rfl, d, S2.out, permIn_trans _ _ _ _ _ (unhide HP1) f2, f1⟩)
end Go.Proofs.Ytfgelagmjjjlgaa.Nt
