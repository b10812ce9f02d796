/- Proved here: the contract of the stable sort's symMerge at elements of several cells: two sorted parts, side by side, become one. Helper contracts. -/
import Derived.Test.YtfgelagmjjjlgaaZNSw
namespace Go.Proofs.Ytfgelagmjjjlgaa.Nt
open Go.Shelf Go.RowKit Go.Lib Go.Sort
variable {P : Program} {α : Type} [Inhabited α] {k : Nat} {enc : α → List Value}

set_option maxHeartbeats 8000000 in
set_option maxRecDepth 1000000 in
theorem sym_first (L : Lay P k) (cf : α → α → Int) (key : α → Int) (tag : α → Nat) (hcf : ∀ x y, cf x y < 0 ↔ key x < key y) (g : Nat) (cb : Array Value) (blk off cap N : Nat) (d0 : Array α) (w0 : World) (eg : ∀ args w, (callFunc g args).run P w = .ok (.enter g args) w) (hcmp : CmpLays P g cb enc k cf blk off d0.size w0) (R : RowK enc k w0 blk off d0) (hs : d0.size = N) (hsz : N ≤ 1000000000) (a m b : Nat) (d : Array α) (w : World) (hm : a + 1 = m) (hmb : m < b) (hb : b ≤ N) (hd : d.size = N) (S : SWK enc k w0 blk off d w) (ht : Srt key tag m b d) (hg : Tg tag a m b d) :
    Calls P 40 #[.slice (some ⟨blk, off, none⟩) N cap, .int .i64 a, .int .i64 m, .int .i64 b, .func (.func g) #[] cb] w fun e w' => e = .returned (.tuple #[]) ∧ ∃ d', SWK enc k w0 blk off d' w' ∧ PermIn a b d d' ∧ Srt key tag a b d' := by
  have HCF := hide hcf
  clear hcf
  have mixed := L.mixed; have t0 := L.t0; have a0 := L.a0; have z0 := L.z0; have v0 := L.v0; have tI := L.tI; have aI := L.aI; have zI := L.zI; have vI := L.vI; have tU := L.tU; have aU := L.aU; have zU := L.zU; have vU := L.vU; have tB := L.tB; have aB := L.aB; have zB := L.zB; have vB := L.vB; have tS := L.tS; have aS := L.aS; have zS := L.zS; have vS := L.vS; have tF := L.tF; have aF := L.aF; have zF := L.zF; have vF := L.vF; have aE := L.aE; have zE := L.zE
  have S0 : Aside (SWK enc k w0 blk off d w) := S
  have HC : Aside _ := hcmp
  have HD : Hid (d.size = N) := hd
  have HS : Hid (Srt key tag m b d) := ht
  have HG : Hid (Tg tag a m b d) := hg
  have hma : IntKind.i64.wrap ((m : Int) - (a : Int)) = 1 := by rw [IntKind.wrap_i64]; omega
  have HM : Hid (a + 1 = m) := hm
  have hlo : a < m := by omega
  clear S hcmp hd ht hg hm
  go_enter L.fSym, Try.ntmps40
  go_wp2
  go_loopg [10, 11] (b - m) (fun kx s10 s11 wr => ∃ i j : Nat, s10 = .int .i64 i ∧ s11 = .int .i64 j ∧ m ≤ i ∧ i ≤ j ∧ j ≤ b ∧ j - i ≤ kx ∧ Aside (SWK enc k w0 blk off d wr) ∧ Hid ((m < i → rr key tag d[i - 1]! d[a]!) ∧ (j < b → rr key tag d[a]! d[j]!)))
  case atStart => exact ⟨m, b, rfl, rfl, by omega, by omega, by omega, by omega, S0, fun h => by omega, fun h => by omega⟩
  case round =>
    clear S0
    obtain ⟨i, j, rfl, rfl, hmi, hij, hjb, hkx, S1, HI⟩ := hrel
    by_cases hlt : i < j
    · have hltz : (i : Int) < (j : Int) := by omega
      obtain ⟨h, Hh⟩ : ∃ h, Hid (h = (i + j) / 2) := ⟨_, rfl⟩
      have eH : ((i : Int) + (j : Int)) / 2 = (h : Int) := by have := unhide Hh; omega
      have h1 : i ≤ h := by have := unhide Hh; omega
      have h2 : h < j := by have := unhide Hh; omega
      have eu : (((h : Nat)) : Int).toNat = h := by omega
      have pu : (0 : Int) ≤ ((h : Nat) : Int) := by omega
      have bu : ((h : Nat) : Int) < (N : Int) := by omega
      have ev : (((a : Nat)) : Int).toNat = a := by omega
      have pv : (0 : Int) ≤ ((a : Nat) : Int) := by omega
      have bv : ((a : Nat) : Int) < (N : Int) := by omega
      obtain ⟨xu, hxu⟩ : ∃ x, x = d[h]! := ⟨_, rfl⟩
      obtain ⟨xv, hxv⟩ : ∃ x, x = d[a]! := ⟨_, rfl⟩
      have lu := S1.out.ld R (by have := unhide HD; omega) P h (by have := unhide HD; omega)
      have lv := S1.out.ld R (by have := unhide HD; omega) P a (by have := unhide HD; omega)
      rw [← hxu] at lu
      rw [← hxv] at lv
      have hcu := S1.out.cmp HC.out (by have := unhide HD; omega) xu xv
      have HX := hide (And.intro hxu hxv)
      clear hxu hxv
      by_cases hlv : cf xu xv < 0
      · have HLT : Hid (key d[h]! < key d[a]!) := by obtain ⟨e1, e2⟩ := unhide HX; rw [← e1, ← e2]; exact ((unhide HCF) _ _).1 hlv
        have hdv : decide (cf xu xv < 0) = true := decide_eq_true hlv
        go_wp2_with fail
        go_quiet_grown (first | (go_at_fn g; refine Calls.grown_of (hcu _ _)))
        have S2 : Aside (SWK enc k w0 blk off d (grow (wr.drewN nq) osq)) := S1.out.grown nq osq
        clear lu lv hcu S1 HX
        generalize grow (wr.drewN nq) osq = w2 at S2 ⊢
        clear nq osq
        go_wp2
        go_roundg (j - (h + 1))
        case measure => omega
        case rel => exact ⟨h + 1, j, by first | rfl | go_num, rfl, by omega, by omega, hjb, Nat.le_refl _, S2, fun _ => by rw [Nat.add_sub_cancel]; exact rr.of_lt (unhide HLT), (unhide HI).2⟩

      · have HLT : Hid (key d[a]! ≤ key d[h]!) := by obtain ⟨e1, e2⟩ := unhide HX; rw [← e1, ← e2]; exact Int.not_lt.1 fun h => hlv (((unhide HCF) _ _).2 h)
        have hdv : decide (cf xu xv < 0) = false := decide_eq_false hlv
        go_wp2_with fail
        go_quiet_grown (first | (go_at_fn g; refine Calls.grown_of (hcu _ _)))
        have S2 : Aside (SWK enc k w0 blk off d (grow (wr.drewN nq) osq)) := S1.out.grown nq osq
        clear lu lv hcu S1 HX
        generalize grow (wr.drewN nq) osq = w2 at S2 ⊢
        clear nq osq
        go_wp2
        go_roundg (h - i)
        case measure => omega
        case rel => exact ⟨i, h, rfl, rfl, hmi, by omega, by omega, Nat.le_refl _, S2, (unhide HI).1, fun _ => rr.of_not (Int.not_lt.2 (unhide HLT)) ((unhide HG) a h (Nat.le_refl _) hlo (by omega) (by omega))⟩
    · have hltz : ¬ (i : Int) < (j : Int) := by omega
      have hj : j = i := by omega
      subst hj
      have hw1 : IntKind.i64.wrap ((j : Int) - 1) = (j : Int) - 1 := by rw [IntKind.wrap_i64]; omega
      go_wp2
      go_loopg [13] (j - a) (fun kx s13 wr => ∃ (x : Nat) (dk : Array α), s13 = .int .i64 x ∧ a ≤ x ∧ x < j ∧ j - x ≤ kx ∧ Hid (dk.size = N) ∧ Aside (SWK enc k w0 blk off dk wr) ∧ Hid (PermIn a b d dk ∧ (∀ y, a ≤ y → y < x → dk[y]! = d[y + 1]!) ∧ dk[x]! = d[a]! ∧ (∀ y, x < y → dk[y]! = d[y]!)))
      case atStart => exact ⟨a, d, rfl, Nat.le_refl _, by omega, by omega, HD, S1, permIn_refl _ _ _, fun y _ _ => by omega, rfl, fun y _ => rfl⟩
      case round =>
        clear S1
        obtain ⟨x, dk, rfl, hax, hxj, hkx2, HK, S1, HJ⟩ := hrel
        by_cases hx : x + 1 < j
        · have hxz : (x : Int) < (j : Int) - 1 := by omega
          obtain ⟨y, Hy⟩ : ∃ y, Hid (y = x + 1) := ⟨_, rfl⟩
          have uy := unhide Hy
          have eY : IntKind.i64.wrap ((x : Int) + 1) = (y : Int) := by rw [IntKind.wrap_i64]; omega
          have ea44 : ((x : Int)).toNat = x := by omega
          have pa44 : (0 : Int) ≤ (x : Int) := by omega
          have ba44 : (x : Int) < (N : Int) := by omega
          have ec44 : ((y : Int)).toNat = y := by omega
          have pc44 : (0 : Int) ≤ (y : Int) := by omega
          have bc44 : (y : Int) < (N : Int) := by omega
          have hkN := unhide HK
          have S2 : Aside (SWK enc k w0 blk off (swp dk x y) ((wr.drew.setCells blk (off + x * k) (enc dk[y]!)).setCells blk (off + y * k) (enc dk[x]!))) := S1.out.swapped R x y (by omega) (by omega)
          have l44a := S1.out.ld1 R (by omega) P x (by omega)
          have l44b := S1.out.ld1 R (by omega) P y (by omega)
          have s44a := S1.out.st1 R (by omega) P x (by omega) dk[y]!
          have s44b := S1.out.st2 R (by omega) P x y (by omega) (by omega) dk[y]! dk[x]!
          have n44a : (enc dk[x]!).length = k := R.hk _
          have n44b : (enc dk[y]!).length = k := R.hk _
          generalize enc dk[x]! = cI44 at S2 l44a s44b n44a
          generalize enc dk[y]! = cJ44 at S2 l44b s44a s44b n44b
          clear S1 hkN uy
          go_wp2_with fail
          go_big_region_o
          clear l44a l44b s44a s44b
          generalize (wr.drew.setCells blk (off + x * k) cJ44).setCells blk (off + y * k) cI44 = w2 at S2 ⊢
          go_wp2
          go_roundg (j - y)
          case measure => have := unhide Hy; omega
          case rel =>
            obtain rfl := unhide Hy
            obtain ⟨j1, j2, j3, j4⟩ := unhide HJ
            have hkN := unhide HK
            have gs := fun z => get_swp dk x (x + 1) z (by omega) (by omega)
            refine ⟨x + 1, swp dk x (x + 1), rfl, by omega, by omega, Nat.le_refl _, (size_swp _ _ _).trans hkN, S2, permIn_trans _ _ _ _ _ j1 (swp_permIn dk a b x (x + 1) (by omega) (by omega) (by omega) (by omega) (by omega)), ?_, ?_, ?_⟩
            · intro y h1 h2
              rw [gs]
              by_cases e1 : y = x
              · subst e1; rw [if_pos rfl]; exact j4 _ (by omega)
              · rw [if_neg e1, if_neg (by omega)]; exact j2 y h1 (by omega)
            · rw [gs, if_neg (by omega), if_pos rfl]; exact j3
            · intro y h1
              rw [gs, if_neg (by omega), if_neg (by omega)]; exact j4 y (by omega)
        · have hxz : ¬ (x : Int) < (j : Int) - 1 := by omega
          go_wp2
          (try simp only [Exit.inBlock, Exit.then])
          refine bodyPost_ret (results_none rfl _ _ _) rfl ?_
          obtain ⟨j1, j2, j3, j4⟩ := unhide HJ
          have ex : x = j - 1 := by omega
          subst ex
          obtain ⟨i1, i2⟩ := unhide HI
          have em := unhide HM
          subst em
          exact ⟨rfl, dk, S1.out, j1, one_first (unhide HS) hmi hjb i1 i2 j2 j3 (fun y hy => j4 y (by omega))⟩

set_option maxHeartbeats 8000000 in
set_option maxRecDepth 1000000 in
theorem sym_last (L : Lay P k) (cf : α → α → Int) (key : α → Int) (tag : α → Nat) (hcf : ∀ x y, cf x y < 0 ↔ key x < key y) (g : Nat) (cb : Array Value) (blk off cap N : Nat) (d0 : Array α) (w0 : World) (eg : ∀ args w, (callFunc g args).run P w = .ok (.enter g args) w) (hcmp : CmpLays P g cb enc k cf blk off d0.size w0) (R : RowK enc k w0 blk off d0) (hs : d0.size = N) (hsz : N ≤ 1000000000) (a m b : Nat) (d : Array α) (w : World) (hma : a + 1 < m) (hm : m + 1 = b) (hb : b ≤ N) (hd : d.size = N) (S : SWK enc k w0 blk off d w) (ht : Srt key tag a m d) (hg : Tg tag a m b d) :
    Calls P 40 #[.slice (some ⟨blk, off, none⟩) N cap, .int .i64 a, .int .i64 m, .int .i64 b, .func (.func g) #[] cb] w fun e w' => e = .returned (.tuple #[]) ∧ ∃ d', SWK enc k w0 blk off d' w' ∧ PermIn a b d d' ∧ Srt key tag a b d' := by
  have HCF := hide hcf
  clear hcf
  have mixed := L.mixed; have t0 := L.t0; have a0 := L.a0; have z0 := L.z0; have v0 := L.v0; have tI := L.tI; have aI := L.aI; have zI := L.zI; have vI := L.vI; have tU := L.tU; have aU := L.aU; have zU := L.zU; have vU := L.vU; have tB := L.tB; have aB := L.aB; have zB := L.zB; have vB := L.vB; have tS := L.tS; have aS := L.aS; have zS := L.zS; have vS := L.vS; have tF := L.tF; have aF := L.aF; have zF := L.zF; have vF := L.vF; have aE := L.aE; have zE := L.zE
  have S0 : Aside (SWK enc k w0 blk off d w) := S
  have HC : Aside _ := hcmp
  have HD : Hid (d.size = N) := hd
  have HS : Hid (Srt key tag a m d) := ht
  have HG : Hid (Tg tag a m b d) := hg
  have hma1 : IntKind.i64.wrap ((m : Int) - (a : Int)) = (m : Int) - (a : Int) := by rw [IntKind.wrap_i64]; omega
  have hma2 : ((m : Int) - (a : Int) == 1) = false := beq_false_of_ne (by omega)
  have hma3 : ¬ ((m : Int) - (a : Int) = 1) := by omega
  have hbm : IntKind.i64.wrap ((b : Int) - (m : Int)) = 1 := by rw [IntKind.wrap_i64]; omega
  have HM : Hid (m + 1 = b) := hm
  have hmb : m < b := by omega
  clear S hcmp hd ht hg hm
  go_enter L.fSym, Try.ntmps40
  go_wp2
  clear hma1 hma2 hma3
  go_loopg [14, 15] (m - a) (fun kx s10 s11 wr => ∃ i j : Nat, s10 = .int .i64 i ∧ s11 = .int .i64 j ∧ a ≤ i ∧ i ≤ j ∧ j ≤ m ∧ j - i ≤ kx ∧ Aside (SWK enc k w0 blk off d wr) ∧ Hid ((a < i → rr key tag d[i - 1]! d[m]!) ∧ (j < m → rr key tag d[m]! d[j]!)))
  case atStart => exact ⟨a, m, rfl, rfl, by omega, by omega, by omega, by omega, S0, fun h => by omega, fun h => by omega⟩
  case round =>
    clear S0
    obtain ⟨i, j, rfl, rfl, hmi, hij, hjb, hkx, S1, HI⟩ := hrel
    by_cases hlt : i < j
    · have hltz : (i : Int) < (j : Int) := by omega
      obtain ⟨h, Hh⟩ : ∃ h, Hid (h = (i + j) / 2) := ⟨_, rfl⟩
      have eH : ((i : Int) + (j : Int)) / 2 = (h : Int) := by have := unhide Hh; omega
      have h1 : i ≤ h := by have := unhide Hh; omega
      have h2 : h < j := by have := unhide Hh; omega
      have eu : (((m : Nat)) : Int).toNat = m := by omega
      have pu : (0 : Int) ≤ ((m : Nat) : Int) := by omega
      have bu : ((m : Nat) : Int) < (N : Int) := by omega
      have ev : (((h : Nat)) : Int).toNat = h := by omega
      have pv : (0 : Int) ≤ ((h : Nat) : Int) := by omega
      have bv : ((h : Nat) : Int) < (N : Int) := by omega
      obtain ⟨xu, hxu⟩ : ∃ x, x = d[m]! := ⟨_, rfl⟩
      obtain ⟨xv, hxv⟩ : ∃ x, x = d[h]! := ⟨_, rfl⟩
      have lu := S1.out.ld R (by have := unhide HD; omega) P m (by have := unhide HD; omega)
      have lv := S1.out.ld R (by have := unhide HD; omega) P h (by have := unhide HD; omega)
      rw [← hxu] at lu
      rw [← hxv] at lv
      have hcu := S1.out.cmp HC.out (by have := unhide HD; omega) xu xv
      have HX := hide (And.intro hxu hxv)
      clear hxu hxv
      by_cases hlv : cf xu xv < 0
      · have HLT : Hid (key d[m]! < key d[h]!) := by obtain ⟨e1, e2⟩ := unhide HX; rw [← e1, ← e2]; exact ((unhide HCF) _ _).1 hlv
        have hdv : decide (cf xu xv < 0) = true := decide_eq_true hlv
        go_wp2_with fail
        go_quiet_grown (first | (go_at_fn g; refine Calls.grown_of (hcu _ _)))
        have S2 : Aside (SWK enc k w0 blk off d (grow (wr.drewN nq) osq)) := S1.out.grown nq osq
        clear lu lv hcu S1 HX
        generalize grow (wr.drewN nq) osq = w2 at S2 ⊢
        clear nq osq
        go_wp2
        go_roundg (h - i)
        case measure => omega
        case rel => exact ⟨i, h, rfl, rfl, hmi, by omega, by omega, Nat.le_refl _, S2, (unhide HI).1, fun _ => rr.of_lt (unhide HLT)⟩

      · have HLT : Hid (key d[h]! ≤ key d[m]!) := by obtain ⟨e1, e2⟩ := unhide HX; rw [← e1, ← e2]; exact Int.not_lt.1 fun h => hlv (((unhide HCF) _ _).2 h)
        have hdv : decide (cf xu xv < 0) = false := decide_eq_false hlv
        go_wp2_with fail
        go_quiet_grown (first | (go_at_fn g; refine Calls.grown_of (hcu _ _)))
        have S2 : Aside (SWK enc k w0 blk off d (grow (wr.drewN nq) osq)) := S1.out.grown nq osq
        clear lu lv hcu S1 HX
        generalize grow (wr.drewN nq) osq = w2 at S2 ⊢
        clear nq osq
        go_wp2
        go_roundg (j - (h + 1))
        case measure => omega
        case rel => exact ⟨h + 1, j, by first | rfl | go_num, rfl, by omega, by omega, hjb, Nat.le_refl _, S2, fun _ => by rw [Nat.add_sub_cancel]; exact rr.of_not (Int.not_lt.2 (unhide HLT)) ((unhide HG) h m (by omega) (by omega) (Nat.le_refl _) hmb), (unhide HI).2⟩
    · have hltz : ¬ (i : Int) < (j : Int) := by omega
      have hj : j = i := by omega
      subst hj
      go_wp2
      go_loopg [17] m (fun kx s13 wr => ∃ (x : Nat) (dk : Array α), s13 = .int .i64 x ∧ j ≤ x ∧ x ≤ m ∧ x ≤ kx ∧ Hid (dk.size = N) ∧ Aside (SWK enc k w0 blk off dk wr) ∧ Hid (PermIn a b d dk ∧ (∀ y, x < y → y ≤ m → dk[y]! = d[y - 1]!) ∧ dk[x]! = d[m]! ∧ (∀ y, y < x → dk[y]! = d[y]!)))
      case atStart => exact ⟨m, d, rfl, by omega, Nat.le_refl _, Nat.le_refl _, HD, S1, permIn_refl _ _ _, fun y _ _ => by omega, rfl, fun y _ => rfl⟩
      case round =>
        clear S1
        obtain ⟨x, dk, rfl, hax, hxj, hkx2, HK, S1, HJ⟩ := hrel
        by_cases hx : j < x
        · have hxz : (j : Int) < (x : Int) := by omega
          obtain ⟨y, Hy⟩ : ∃ y, Hid (x = y + 1) := ⟨x - 1, by show _ = _; omega⟩
          have uy := unhide Hy
          have eY : IntKind.i64.wrap ((x : Int) - 1) = (y : Int) := by rw [IntKind.wrap_i64]; omega
          have ea44 : ((x : Int)).toNat = x := by omega
          have pa44 : (0 : Int) ≤ (x : Int) := by omega
          have ba44 : (x : Int) < (N : Int) := by omega
          have ec44 : ((y : Int)).toNat = y := by omega
          have pc44 : (0 : Int) ≤ (y : Int) := by omega
          have bc44 : (y : Int) < (N : Int) := by omega
          have hkN := unhide HK
          have S2 : Aside (SWK enc k w0 blk off (swp dk x y) ((wr.drew.setCells blk (off + x * k) (enc dk[y]!)).setCells blk (off + y * k) (enc dk[x]!))) := S1.out.swapped R x y (by omega) (by omega)
          have l44a := S1.out.ld1 R (by omega) P x (by omega)
          have l44b := S1.out.ld1 R (by omega) P y (by omega)
          have s44a := S1.out.st1 R (by omega) P x (by omega) dk[y]!
          have s44b := S1.out.st2 R (by omega) P x y (by omega) (by omega) dk[y]! dk[x]!
          have n44a : (enc dk[x]!).length = k := R.hk _
          have n44b : (enc dk[y]!).length = k := R.hk _
          generalize enc dk[x]! = cI44 at S2 l44a s44b n44a
          generalize enc dk[y]! = cJ44 at S2 l44b s44a s44b n44b
          clear S1 hkN uy
          go_wp2_with fail
          go_big_region_o
          clear l44a l44b s44a s44b
          generalize (wr.drew.setCells blk (off + x * k) cJ44).setCells blk (off + y * k) cI44 = w2 at S2 ⊢
          go_wp2
          go_roundg y
          case measure => have := unhide Hy; omega
          case rel =>
            obtain rfl := unhide Hy
            obtain ⟨j1, j2, j3, j4⟩ := unhide HJ
            have hkN := unhide HK
            have gs := fun z => get_swp dk (y + 1) y z (by omega) (by omega)
            refine ⟨y, swp dk (y + 1) y, rfl, by omega, by omega, Nat.le_refl _, (size_swp _ _ _).trans hkN, S2, permIn_trans _ _ _ _ _ j1 (swp_permIn dk a b (y + 1) y (by omega) (by omega) (by omega) (by omega) (by omega)), ?_, ?_, ?_⟩
            · intro z h1 h2
              rw [gs]
              by_cases e1 : z = y + 1
              · subst e1; rw [if_pos rfl]; exact j4 _ (by omega)
              · rw [if_neg e1, if_neg (by omega)]; exact j2 z (by omega) h2
            · rw [gs, if_neg (by omega), if_pos rfl]; exact j3
            · intro z h1
              rw [gs, if_neg (by omega), if_neg (by omega)]; exact j4 z (by omega)
        · have hxz : ¬ (j : Int) < (x : Int) := by omega
          go_wp2
          (try simp only [Exit.inBlock, Exit.then])
          refine bodyPost_ret (results_none rfl _ _ _) rfl ?_
          obtain ⟨j1, j2, j3, j4⟩ := unhide HJ
          have ex : x = j := by omega
          subst ex
          obtain ⟨i1, i2⟩ := unhide HI
          have em := unhide HM
          subst em
          exact ⟨rfl, dk, S1.out, j1, one_last (unhide HS) hmi hjb i1 i2 j2 j3 j4⟩
end Go.Proofs.Ytfgelagmjjjlgaa.Nt
