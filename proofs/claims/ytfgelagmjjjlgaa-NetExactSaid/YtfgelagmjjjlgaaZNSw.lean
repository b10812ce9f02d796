/- Proved here: contracts of the stable sort's swapRange and rotate at elements of several cells, over any program that holds their texts. Helper contracts. -/
import Derived.Test.YtfgelagmjjjlgaaZNPl
import Derived.Test.YtfgelagmjjjlgaaZBase
import Derived.Test.YtfgelagmjjjlgaaProg
import Derived.Shelf.SlSortCmp.KitK
import Derived.Deep.LoopGhost
namespace Go.Proofs.Ytfgelagmjjjlgaa.Nt
open Go.Shelf Go.RowKit Go.Lib Go.Sort

/-- what the sort's walks ask of the program; elements have k cells -/
structure Lay (P : Program) (k : Nat) : Prop where
  mixed : P.follows .mixedOrders = true
  fSort : P.funcs[25]? = some Try.f25
  fStable : P.funcs[34]? = some Try.f34
  fSym : P.funcs[40]? = some Try.f40
  fRotate : P.funcs[42]? = some Try.f42
  fSwap : P.funcs[43]? = some Try.f43
  fInsert : P.funcs[39]? = some Try.f39
  t0 : P.underlying 0 = some (TypeDesc.tuple #[])
  a0 : ∀ w, (isAgg 0).run P w = .ok false w
  z0 : ∀ w, (Go.sizeOf 0).run P w = .ok 1 w
  v0 : ∀ w, (zeroValue 0).run P w = .ok (Value.tuple #[]) w
  tI : P.underlying 3 = some (TypeDesc.int IntKind.i64)
  aI : ∀ w, (isAgg 3).run P w = .ok false w
  zI : ∀ w, (Go.sizeOf 3).run P w = .ok 1 w
  vI : ∀ w, (zeroValue 3).run P w = .ok (Value.int IntKind.i64 0) w
  tU : P.underlying 51 = some (TypeDesc.int IntKind.u64)
  aU : ∀ w, (isAgg 51).run P w = .ok false w
  zU : ∀ w, (Go.sizeOf 51).run P w = .ok 1 w
  vU : ∀ w, (zeroValue 51).run P w = .ok (Value.int IntKind.u64 0) w
  tB : P.underlying 4 = some (TypeDesc.bool)
  aB : ∀ w, (isAgg 4).run P w = .ok false w
  zB : ∀ w, (Go.sizeOf 4).run P w = .ok 1 w
  vB : ∀ w, (zeroValue 4).run P w = .ok (Value.bool false) w
  tS : P.underlying 48 = some (TypeDesc.slice 53)
  aS : ∀ w, (isAgg 48).run P w = .ok false w
  zS : ∀ w, (Go.sizeOf 48).run P w = .ok 1 w
  vS : ∀ w, (zeroValue 48).run P w = .ok (Value.slice none 0 0) w
  tF : P.underlying 56 = some (TypeDesc.func #[53, 53] #[3] false)
  aF : ∀ w, (isAgg 56).run P w = .ok false w
  zF : ∀ w, (Go.sizeOf 56).run P w = .ok 1 w
  vF : ∀ w, (zeroValue 56).run P w = .ok (Value.nilFunc) w
  aE : ∀ w, (isAgg 53).run P w = .ok true w
  zE : ∀ w, (Go.sizeOf 53).run P w = .ok k w
theorem lay : Lay Try.prog 13 := {
  mixed := by kernel_rfl
  fSort := Try.func25
  fStable := Try.func34
  fSym := Try.func40
  fRotate := Try.func42
  fSwap := Try.func43
  fInsert := Try.func39
  t0 := Try.underlying0
  a0 := Try.isAgg0
  z0 := Try.sizeOf0
  v0 := Try.zeroValue0
  tI := Try.underlying3
  aI := Try.isAgg3
  zI := Try.sizeOf3
  vI := Try.zeroValue3
  tU := Try.underlying51
  aU := Try.isAgg51
  zU := Try.sizeOf51
  vU := Try.zeroValue51
  tB := Try.underlying4
  aB := Try.isAgg4
  zB := Try.sizeOf4
  vB := Try.zeroValue4
  tS := Try.underlying48
  aS := Try.isAgg48
  zS := Try.sizeOf48
  vS := Try.zeroValue48
  tF := Try.underlying56
  aF := Try.isAgg56
  zF := Try.sizeOf56
  vF := Try.zeroValue56
  aE := Try.isAgg53
  zE := Try.sizeOf53 }
variable {P : Program} {α : Type} [Inhabited α] {k : Nat} {enc : α → List Value}

set_option maxHeartbeats 4000000 in
set_option maxRecDepth 1000000 in
theorem swap_any (L : Lay P k) (f : Value) (blk off cap a b n N : Nat) (d0 d : Array α) (w0 w : World) (R : RowK enc k w0 blk off d0) (hs : d0.size = N) (hd : d.size = N) (S : SWK enc k w0 blk off d w) (hab : a + n ≤ b) (hb : b + n ≤ N) (hsz : N < 4611686018427387904) :
    Calls P 43 #[.slice (some ⟨blk, off, none⟩) N cap, .int .i64 a, .int .i64 b, .int .i64 n, f] w fun e w' => e = .returned (.tuple #[]) ∧ ∃ d', SWK enc k w0 blk off d' w' ∧ PermIn a (b + n) d d' ∧ (∀ t, t < n → d'[a + t]! = d[b + t]!) ∧ (∀ t, t < n → d'[b + t]! = d[a + t]!) ∧ (∀ x, x < a ∨ (a + n ≤ x ∧ x < b) ∨ b + n ≤ x → d'[x]! = d[x]!) := by
  have mixed := L.mixed; have t0 := L.t0; have a0 := L.a0; have z0 := L.z0; have v0 := L.v0; have tI := L.tI; have aI := L.aI; have zI := L.zI; have vI := L.vI; have tB := L.tB; have aB := L.aB; have zB := L.zB; have vB := L.vB; have tS := L.tS; have aS := L.aS; have zS := L.zS; have vS := L.vS; have tF := L.tF; have aF := L.aF; have zF := L.zF; have vF := L.vF; have aE := L.aE; have zE := L.zE
  have S0 : Aside (SWK enc k w0 blk off d w) := S
  have HD : Hid (d.size = N) := hd
  clear S hd
  go_enter L.fSwap, Try.ntmps43
  go_wp2
  go_loopg [10] n (fun kx s10 wr => ∃ (i : Nat) (dk : Array α), s10 = .int .i64 i ∧ i ≤ n ∧ n - i ≤ kx ∧ Hid (dk.size = N) ∧ Aside (SWK enc k w0 blk off dk wr) ∧ Hid (PermIn a (b + n) d dk ∧ (∀ t, t < i → dk[a + t]! = d[b + t]!) ∧ (∀ t, t < i → dk[b + t]! = d[a + t]!) ∧ (∀ x, x < a ∨ (a + i ≤ x ∧ x < b) ∨ b + i ≤ x → dk[x]! = d[x]!)))
  case atStart => exact ⟨0, d, rfl, Nat.zero_le _, by omega, HD, S0, permIn_refl _ _ _, fun t ht => by omega, fun t ht => by omega, fun x _ => rfl⟩
  case round =>
    clear S0
    obtain ⟨i, dk, rfl, hin, hkx, HK, S1, HI⟩ := hrel
    by_cases hlt : i < n
    · have hltz : (i : Int) < (n : Int) := by omega
      go_wp2_with fail
      obtain ⟨p, hp⟩ : ∃ p, Hid (p = a + i) := ⟨_, rfl⟩
      obtain ⟨q, hq⟩ : ∃ q, Hid (q = b + i) := ⟨_, rfl⟩
      have up := unhide hp
      have uq := unhide hq
      have hkN := unhide HK
      have eP : IntKind.i64.wrap ((a : Int) + (i : Int)) = (p : Int) := by rw [IntKind.wrap_i64]; omega
      have eQ : IntKind.i64.wrap ((b : Int) + (i : Int)) = (q : Int) := by rw [IntKind.wrap_i64]; omega
      have ea44 : ((p : Int)).toNat = p := by omega
      have pa44 : (0 : Int) ≤ (p : Int) := by omega
      have ba44 : (p : Int) < (N : Int) := by omega
      have ec44 : ((q : Int)).toNat = q := by omega
      have pc44 : (0 : Int) ≤ (q : Int) := by omega
      have bc44 : (q : Int) < (N : Int) := by omega
      have S2 : Aside (SWK enc k w0 blk off (swp dk p q) ((wr.drew.setCells blk (off + p * k) (enc dk[q]!)).setCells blk (off + q * k) (enc dk[p]!))) := S1.out.swapped R p q (by omega) (by omega)
      have l44a := S1.out.ld1 R (by omega) P p (by omega)
      have l44b := S1.out.ld1 R (by omega) P q (by omega)
      have s44a := S1.out.st1 R (by omega) P p (by omega) dk[q]!
      have s44b := S1.out.st2 R (by omega) P p q (by omega) (by omega) dk[q]! dk[p]!
      have n44a : (enc dk[p]!).length = k := R.hk _
      have n44b : (enc dk[q]!).length = k := R.hk _
      generalize enc dk[p]! = cI44 at S2 l44a s44b n44a
      generalize enc dk[q]! = cJ44 at S2 l44b s44a s44b n44b
      clear S1 up uq hkN
      go_big_region_o
      clear l44a l44b s44a s44b
      generalize (wr.drew.setCells blk (off + p * k) cJ44).setCells blk (off + q * k) cI44 = w2 at S2 ⊢
      go_wp2
      go_roundg (n - (i + 1))
      case measure => omega
      case rel =>
        obtain rfl := unhide hp
        obtain rfl := unhide hq
        have hkN := unhide HK
        obtain ⟨i1, i2, i3, i4⟩ := unhide HI
        have g := fun x => get_swp dk (a + i) (b + i) x (by omega) (by omega)
        refine ⟨i + 1, swp dk (a + i) (b + i), by simp, by omega, Nat.le_refl _, (size_swp _ _ _).trans hkN, S2, permIn_trans _ _ _ _ _ i1 (swp_permIn dk a (b + n) (a + i) (b + i) (by omega) (by omega) (by omega) (by omega) (by omega)), ?_, ?_, ?_⟩
        · intro t ht
          rw [g]
          by_cases e1 : t = i
          · subst e1
            rw [if_pos rfl]; exact i4 _ (by omega)
          · rw [if_neg (by omega), if_neg (by omega)]; exact i2 t (by omega)
        · intro t ht
          rw [g]
          by_cases e1 : t = i
          · subst e1
            rw [if_neg (by omega), if_pos rfl]; exact i4 _ (by omega)
          · rw [if_neg (by omega), if_neg (by omega)]; exact i3 t (by omega)
        · intro x hx
          rw [g, if_neg (by omega), if_neg (by omega)]; exact i4 x (by omega)
    · have hltz : ¬ (i : Int) < (n : Int) := by omega
      go_wp2
      go_end0
      have : i = n := by omega
      subst this
      exact ⟨rfl, dk, S1.out, unhide HI⟩

set_option maxHeartbeats 4000000 in
set_option maxRecDepth 1000000 in
theorem rotate_any (L : Lay P k) (f : Value) (blk off cap a m b N : Nat) (d0 d : Array α) (w0 w : World) (R : RowK enc k w0 blk off d0) (hs : d0.size = N) (hd : d.size = N) (S : SWK enc k w0 blk off d w) (ham : a < m) (hmb : m < b) (hb : b ≤ N) (hsz : N < 4611686018427387904) :
    Calls P 42 #[.slice (some ⟨blk, off, none⟩) N cap, .int .i64 a, .int .i64 m, .int .i64 b, f] w fun e w' => e = .returned (.tuple #[]) ∧ ∃ d', SWK enc k w0 blk off d' w' ∧ PermIn a b d d' ∧ ∀ x, d'[x]! = rot d a m b x := by
  have mixed := L.mixed; have t0 := L.t0; have a0 := L.a0; have z0 := L.z0; have v0 := L.v0; have tI := L.tI; have aI := L.aI; have zI := L.zI; have vI := L.vI; have tB := L.tB; have aB := L.aB; have zB := L.zB; have vB := L.vB; have tS := L.tS; have aS := L.aS; have zS := L.zS; have vS := L.vS; have tF := L.tF; have aF := L.aF; have zF := L.zF; have vF := L.vF; have aE := L.aE; have zE := L.zE
  have eSw : ∀ args w, (callFunc 43 args).run P w = .ok (.enter 43 args) w := enters_of L.fSwap (by kernel_rfl) rfl
  have SW := hide (fun (a b n : Nat) (d : Array α) (w : World) => swap_any L f blk off cap a b n N d0 d w0 w R hs)
  have S0 : Aside (SWK enc k w0 blk off d w) := S
  have HD : Hid (d.size = N) := hd
  clear S hd
  go_enter L.fRotate, Try.ntmps42
  have E1 : IntKind.i64.wrap ((m : Int) - (a : Int)) = ((m - a : Nat) : Int) := by rw [IntKind.wrap_i64]; omega
  have E2 : IntKind.i64.wrap ((b : Int) - (m : Int)) = ((b - m : Nat) : Int) := by rw [IntKind.wrap_i64]; omega
  go_wp2
  clear E1 E2
  go_loopg [10, 11] (b - a) (fun kx s10 s11 wr => ∃ (i j : Nat) (dk : Array α), s10 = .int .i64 i ∧ s11 = .int .i64 j ∧ 0 < i ∧ 0 < j ∧ a + i ≤ m ∧ m + j ≤ b ∧ i + j ≤ kx ∧ Hid (dk.size = N) ∧ Aside (SWK enc k w0 blk off dk wr) ∧ Hid (PermIn a b d dk ∧ ∀ x, rot dk (m - i) m (m + j) x = rot d a m b x))
  case atStart => exact ⟨m - a, b - m, d, by go_num, by go_num, by omega, by omega, by omega, by omega, by omega, HD, S0, permIn_refl _ _ _, fun x => by rw [show m - (m - a) = a from by omega, show m + (b - m) = b from by omega]⟩
  case round =>
    clear S0
    obtain ⟨i, j, dk, rfl, rfl, hi, hj, him, hjm, hkx, HK, S1, HI⟩ := hrel
    by_cases hij : i = j
    · subst hij
      have hc := (unhide SW) (m - i) m i dk wr (unhide HK) S1.out (by omega) (by omega) hsz
      have HN : Hid (b ≤ N) := hb
      have e1 : IntKind.i64.wrap ((m : Int) - (i : Int)) = ((m - i : Nat) : Int) := by rw [IntKind.wrap_i64]; omega
      generalize hmi : m - i = mi at hc e1
      have HMI := hide hmi
      clear hmi
      go_wp2_with (go_at_fn 43; refine hc.mono ?_; rintro e w1 ⟨rfl, d', S2, p1, p2, p3, p4⟩)
      go_end0
      obtain rfl := unhide HMI
      obtain ⟨i1, i2⟩ := unhide HI
      refine ⟨rfl, d', S2, permIn_trans _ _ _ _ _ i1 (permIn_mono _ _ _ _ _ _ (by omega) (by omega) (by rw [unhide HK]; exact unhide HN) p1), fun x => ?_⟩
      rw [← i2 x]
      exact rot_even (by omega) p2 p3 (fun x hx => p4 x (by omega)) x
    · by_cases hlt : j < i
      · have hltz : (j : Int) < (i : Int) := by omega
        have hne : ((i : Int) == (j : Int)) = false := beq_false_of_ne (by omega)
        have hne2 : ((i : Int) != (j : Int)) = true := by simp only [bne, hne, Bool.not_false]
        have hc := (unhide SW) (m - i) m j dk wr (unhide HK) S1.out (by omega) (by omega) hsz
        have HN : Hid (b ≤ N) := hb
        have e1 : IntKind.i64.wrap ((m : Int) - (i : Int)) = ((m - i : Nat) : Int) := by rw [IntKind.wrap_i64]; omega
        have e2 : IntKind.i64.wrap ((i : Int) - (j : Int)) = ((i - j : Nat) : Int) := by rw [IntKind.wrap_i64]; omega
        generalize hmi : m - i = mi at hc e1
        generalize hmj : i - j = mj at e2
        have HMI := hide hmi
        have HMJ := hide hmj
        clear hmi hmj
        go_wp2_with (go_at_fn 43; refine hc.mono ?_; rintro e w1 ⟨rfl, d', S2, p1, p2, p3, p4⟩)
        obtain rfl := unhide HMI
        obtain rfl := unhide HMJ
        go_roundg (i - j + j)
        case measure => omega
        case rel =>
          obtain ⟨i1, i2⟩ := unhide HI
          refine ⟨i - j, j, d', rfl, rfl, by omega, hj, by omega, hjm, by omega, p1.1.trans (unhide HK), S2, permIn_trans _ _ _ _ _ i1 (permIn_mono _ _ _ _ _ _ (by omega) (by omega) (by rw [unhide HK]; exact unhide HN) p1), fun x => ?_⟩
          rw [← i2 x]
          exact rot_left (by omega) hlt p2 p3 (fun x hx => p4 x (by omega)) x
      · have hltz : ¬ (j : Int) < (i : Int) := by omega
        have hne : ((i : Int) == (j : Int)) = false := beq_false_of_ne (by omega)
        have hne2 : ((i : Int) != (j : Int)) = true := by simp only [bne, hne, Bool.not_false]
        have hc := (unhide SW) (m - i) (m + j - i) i dk wr (unhide HK) S1.out (by omega) (by omega) hsz
        have HN : Hid (b ≤ N) := hb
        have e1 : IntKind.i64.wrap ((m : Int) - (i : Int)) = ((m - i : Nat) : Int) := by rw [IntKind.wrap_i64]; omega
        have e2 : IntKind.i64.wrap ((j : Int) - (i : Int)) = ((j - i : Nat) : Int) := by rw [IntKind.wrap_i64]; omega
        have e3 : IntKind.i64.wrap ((m : Int) + (j : Int) - (i : Int)) = ((m + j - i : Nat) : Int) := by rw [IntKind.wrap_i64]; omega
        have e4 : IntKind.i64.wrap ((m : Int) + (j : Int)) = (m : Int) + (j : Int) := by rw [IntKind.wrap_i64]; omega
        generalize hmi : m - i = mi at hc e1
        generalize hmj : j - i = mj at e2
        generalize hmk : m + j - i = mk at hc e3
        have HMI := hide hmi
        have HMJ := hide hmj
        have HMK := hide hmk
        clear hmi hmj hmk
        go_wp2_with (go_at_fn 43; refine hc.mono ?_; rintro e w1 ⟨rfl, d', S2, p1, p2, p3, p4⟩)
        obtain rfl := unhide HMI
        obtain rfl := unhide HMJ
        obtain rfl := unhide HMK
        go_roundg (i + (j - i))
        case measure => omega
        case rel =>
          obtain ⟨i1, i2⟩ := unhide HI
          refine ⟨i, j - i, d', rfl, rfl, hi, by omega, him, by omega, by omega, p1.1.trans (unhide HK), S2, permIn_trans _ _ _ _ _ i1 (permIn_mono _ _ _ _ _ _ (by omega) (by omega) (by rw [unhide HK]; exact unhide HN) p1), fun x => ?_⟩
          rw [← i2 x]
          exact rot_right (by omega) (by omega) p2 p3 (fun x hx => p4 x (by omega)) x
end Go.Proofs.Ytfgelagmjjjlgaa.Nt
