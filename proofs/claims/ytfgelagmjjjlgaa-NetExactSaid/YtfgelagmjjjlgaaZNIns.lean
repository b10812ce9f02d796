/- Proved here: the contract of the insertion sort at elements of several cells, by a key and a mark. Helper contracts. -/
import Derived.Test.YtfgelagmjjjlgaaZNSw
namespace Go.Proofs.Ytfgelagmjjjlgaa.Nt
open Go.Shelf Go.RowKit Go.Lib Go.Sort
variable {P : Program} {α : Type} [Inhabited α] {k : Nat} {enc : α → List Value}

set_option maxHeartbeats 8000000 in
set_option maxRecDepth 1000000 in
theorem ins_any (L : Lay P k) (cf : α → α → Int) (key : α → Int) (tag : α → Nat) (hcf : ∀ x y, cf x y < 0 ↔ key x < key y) (g : Nat) (cb : Array Value) (blk off cap N : Nat) (d0 : Array α) (w0 : World) (eg : ∀ args w, (callFunc g args).run P w = .ok (.enter g args) w) (hcmp : CmpLays P g cb enc k cf blk off d0.size w0) (R : RowK enc k w0 blk off d0) (hs : d0.size = N) (hsz : N ≤ 1000000000) (a b : Nat) (d : Array α) (w : World) (hab : a ≤ b) (hb : b ≤ N) (hd : d.size = N) (S : SWK enc k w0 blk off d w) (ht : ∀ p q, a ≤ p → p < q → q < b → tag d[p]! < tag d[q]!) :
    Calls P 39 #[.slice (some ⟨blk, off, none⟩) N cap, .int .i64 a, .int .i64 b, .func (.func g) #[] cb] w fun e w' => e = .returned (.tuple #[]) ∧ ∃ d', SWK enc k w0 blk off d' w' ∧ PermIn a b d d' ∧ Srt key tag a b d' := by
  have HCF := hide hcf
  clear hcf
  have mixed := L.mixed; have t0 := L.t0; have a0 := L.a0; have z0 := L.z0; have v0 := L.v0; have tI := L.tI; have aI := L.aI; have zI := L.zI; have vI := L.vI; have tU := L.tU; have aU := L.aU; have zU := L.zU; have vU := L.vU; have tB := L.tB; have aB := L.aB; have zB := L.zB; have vB := L.vB; have tS := L.tS; have aS := L.aS; have zS := L.zS; have vS := L.vS; have tF := L.tF; have aF := L.aF; have zF := L.zF; have vF := L.vF; have aE := L.aE; have zE := L.zE
  have S0 : Aside (SWK enc k w0 blk off d w) := S
  have HC : Aside _ := hcmp
  have HD : Hid (d.size = N) := hd
  have HT : Hid (∀ p q, a ≤ p → p < q → q < b → tag d[p]! < tag d[q]!) := ht
  clear S hcmp hd ht
  go_enter L.fInsert, Try.ntmps39
  go_wp2
  go_loopg [8] (b + 1 - a) (fun kx s8 wr => ∃ (i : Nat) (dk : Array α), s8 = .int .i64 i ∧ a < i ∧ i ≤ b + 1 ∧ b - i ≤ kx ∧ Hid (dk.size = N) ∧ Aside (SWK enc k w0 blk off dk wr) ∧ Hid (PermIn a b d dk ∧ Srt key tag a (min i b) dk ∧ (∀ p q, a ≤ p → p < q → i ≤ q → q < b → tag dk[p]! < tag dk[q]!)))
  case atStart => exact ⟨a + 1, d, by first | rfl | go_num, by omega, by omega, by omega, HD, S0, permIn_refl _ _ _, fun x y h1 h2 h3 => by omega, fun p q h1 h2 _ h3 => (unhide HT) p q h1 h2 h3⟩
  case round =>
    clear S0
    obtain ⟨i, dk, rfl, hai, hib, hkx, HK, S1, HI⟩ := hrel
    by_cases hlt : i < b
    · have hltz : (i : Int) < (b : Int) := by omega
      go_wp2
      go_loopg [9] i (fun k2 s9 wr => ∃ (j : Nat) (dj : Array α), s9 = .int .i64 j ∧ a ≤ j ∧ j ≤ i ∧ j ≤ k2 ∧ Hid (dj.size = N) ∧ Aside (SWK enc k w0 blk off dj wr) ∧ Hid (PermIn a (i + 1) dk dj ∧ Ins key tag a i j dj))
      case atStart =>
        obtain ⟨o1, o2, o3⟩ := unhide HI
        rw [Nat.min_eq_left (by omega)] at o2
        exact ⟨i, dk, rfl, by omega, Nat.le_refl _, Nat.le_refl _, HK, S1, permIn_refl _ _ _, ⟨fun p q hp hpq hq n1 n2 => o2 p q hp hpq (by omega), fun q h1 h2 => by omega, fun p h1 h2 n => o3 p i h1 (by omega) (Nat.le_refl _) hlt⟩⟩
      case round =>
        clear S1
        obtain ⟨j, dj, rfl, haj, hji, hk2, HJ, S1, HI2⟩ := hrel
        by_cases hja : a < j
        · have hjaz : (a : Int) < (j : Int) := by omega
          have hjg : decide ((j : Int) > (a : Int)) = true := decide_eq_true hjaz
          have hjl : decide ((a : Int) < (j : Int)) = true := decide_eq_true hjaz
          obtain ⟨y, Hy⟩ : ∃ y, Hid (j = y + 1) := ⟨j - 1, by show _ = _; omega⟩
          have uy := unhide Hy
          have eY : IntKind.i64.wrap ((j : Int) - 1) = (y : Int) := by rw [IntKind.wrap_i64]; omega
          have hy1 : y < j := by omega
          have hy2 : j ≤ y + 1 := by omega
          clear uy
          have eu : (((j : Nat)) : Int).toNat = j := by omega
          have pu : (0 : Int) ≤ ((j : Nat) : Int) := by omega
          have bu : ((j : Nat) : Int) < (N : Int) := by omega
          have ev : (((y : Nat)) : Int).toNat = y := by omega
          have pv : (0 : Int) ≤ ((y : Nat) : Int) := by omega
          have bv : ((y : Nat) : Int) < (N : Int) := by omega
          obtain ⟨xu, hxu⟩ : ∃ x, x = dj[j]! := ⟨_, rfl⟩
          obtain ⟨xv, hxv⟩ : ∃ x, x = dj[y]! := ⟨_, rfl⟩
          have lu := S1.out.ld R (by have := unhide HJ; omega) P j (by have := unhide HJ; omega)
          have lv := S1.out.ld R (by have := unhide HJ; omega) P y (by have := unhide HJ; omega)
          rw [← hxu] at lu
          rw [← hxv] at lv
          have hcu := S1.out.cmp HC.out (by have := unhide HJ; omega) xu xv
          have HX := hide (And.intro hxu hxv)
          clear hxu hxv
          by_cases hlv : cf xu xv < 0
          · have HLT : Hid (key dj[j]! < key dj[y]!) := by obtain ⟨e1, e2⟩ := unhide HX; rw [← e1, ← e2]; exact ((unhide HCF) _ _).1 hlv
            have hdv : decide (cf xu xv < 0) = true := decide_eq_true hlv
            go_wp2_with fail
            go_quiet_grown (first | (go_at_fn g; refine Calls.grown_of (hcu _ _)))
            have S2 : Aside (SWK enc k w0 blk off dj (grow (wr.drewN nq) osq)) := S1.out.grown nq osq
            clear lu lv hcu S1 HX
            generalize grow (wr.drewN nq) osq = w2 at S2 ⊢
            clear nq osq
            go_wp2
            have hkN := unhide HJ
            have S3 : Aside (SWK enc k w0 blk off (swp dj j y) ((w2.drew.setCells blk (off + j * k) (enc dj[y]!)).setCells blk (off + y * k) (enc dj[j]!))) := S2.out.swapped R j y (by omega) (by omega)
            have l44a := S2.out.ld1 R (by omega) P j (by omega)
            have l44b := S2.out.ld1 R (by omega) P y (by omega)
            have s44a := S2.out.st1 R (by omega) P j (by omega) dj[y]!
            have s44b := S2.out.st2 R (by omega) P j y (by omega) (by omega) dj[y]! dj[j]!
            have n44a : (enc dj[j]!).length = k := R.hk _
            have n44b : (enc dj[y]!).length = k := R.hk _
            generalize enc dj[j]! = cI44 at S3 l44a s44b n44a
            generalize enc dj[y]! = cJ44 at S3 l44b s44a s44b n44b
            clear S2 hkN
            go_big_region_o
            clear l44a l44b s44a s44b
            generalize (w2.drew.setCells blk (off + j * k) cJ44).setCells blk (off + y * k) cI44 = w3 at S3 ⊢
            go_wp2
            go_roundg y
            case measure => have := unhide Hy; omega
            case rel =>
              obtain rfl := unhide Hy
              obtain ⟨i1, i2⟩ := unhide HI2
              have hkN := unhide HJ
              refine ⟨y, swp dj (y + 1) y, by first | rfl | go_num, by omega, by omega, Nat.le_refl _, (size_swp _ _ _).trans hkN, S3, permIn_trans _ _ _ _ _ i1 (swp_permIn dj a (i + 1) (y + 1) y (by omega) (by omega) (by omega) (by omega) (by omega)), i2.go (by omega) (by omega) (by omega) (unhide HLT)⟩

          · have HLT : Hid (key dj[y]! ≤ key dj[j]!) := by obtain ⟨e1, e2⟩ := unhide HX; rw [← e1, ← e2]; exact Int.not_lt.1 fun h => hlv (((unhide HCF) _ _).2 h)
            have hdv : decide (cf xu xv < 0) = false := decide_eq_false hlv
            go_wp2_with fail
            go_quiet_grown (first | (go_at_fn g; refine Calls.grown_of (hcu _ _)))
            have S2 : Aside (SWK enc k w0 blk off dj (grow (wr.drewN nq) osq)) := S1.out.grown nq osq
            clear lu lv hcu S1 HX
            generalize grow (wr.drewN nq) osq = w2 at S2 ⊢
            clear nq osq
            go_wp2
            go_roundg (b - (i + 1))
            case measure => omega
            case rel =>
              obtain ⟨i1, i2⟩ := unhide HI2
              obtain ⟨o1, o2, o3⟩ := unhide HI
              have hkN := unhide HK
              have hst := i2.stop (by omega) (by omega) (.inr (by rw [show j - 1 = y from by have := unhide Hy; omega]; exact Int.not_lt.2 (unhide HLT)))
              refine ⟨i + 1, dj, by go_num, by omega, by omega, by omega, unhide HJ, S2, permIn_trans _ _ _ _ _ o1 (permIn_mono _ _ _ _ _ _ (Nat.le_refl _) (by omega) (by omega) i1), by rw [Nat.min_eq_left (by omega)]; exact hst, ?_⟩
              intro p q h1 h2 h3 h4
              rw [perm_out i1 q (.inr h3)]
              by_cases e : p < i + 1
              · obtain ⟨p', g1, g2, g3⟩ := perm_in i1 (by omega) p h1 e
                rw [g3]
                exact o3 p' q g1 (by omega) (by omega) h4
              · rw [perm_out i1 p (.inr (by omega))]
                exact o3 p q h1 h2 (by omega) h4
        · have hjaz : decide ((j : Int) > (a : Int)) = false := decide_eq_false (by omega)
          have hjaz' : ¬ (a : Int) < (j : Int) := by omega
          have S2 : Aside (SWK enc k w0 blk off dj wr.drew) := S1.out.drew
          clear S1
          go_wp2_with fail
          go_big_region_o
          generalize wr.drew = w2 at S2 ⊢
          all_goals go_wp2
          go_roundg (b - (i + 1))
          case measure => omega
          case rel =>
            obtain ⟨i1, i2⟩ := unhide HI2
            obtain ⟨o1, o2, o3⟩ := unhide HI
            have hkN := unhide HK
            have hst := i2.stop (by omega) (by omega) (.inl (by omega))
            refine ⟨i + 1, dj, by go_num, by omega, by omega, by omega, unhide HJ, S2, permIn_trans _ _ _ _ _ o1 (permIn_mono _ _ _ _ _ _ (Nat.le_refl _) (by omega) (by omega) i1), by rw [Nat.min_eq_left (by omega)]; exact hst, ?_⟩
            intro p q h1 h2 h3 h4
            rw [perm_out i1 q (.inr h3)]
            by_cases e : p < i + 1
            · obtain ⟨p', g1, g2, g3⟩ := perm_in i1 (by omega) p h1 e
              rw [g3]
              exact o3 p' q g1 (by omega) (by omega) h4
            · rw [perm_out i1 p (.inr (by omega))]
              exact o3 p q h1 h2 (by omega) h4
    · have hltz : ¬ (i : Int) < (b : Int) := by omega
      go_wp2
      go_end0
      obtain ⟨o1, o2, o3⟩ := unhide HI
      rw [Nat.min_eq_right (by omega)] at o2
      exact ⟨rfl, dk, S1.out, o1, o2⟩
end Go.Proofs.Ytfgelagmjjjlgaa.Nt
