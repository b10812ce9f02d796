/- Proved here: slices.Sorted at what slices.Values tells; slices.ContainsFunc at what is below 0; quorum.Index. Helper contracts. -/
import Derived.Test.YtnflgfpicigajaaDoorZUVa
import Derived.Test.YtnflgfpicigajaaDoorZUPr
namespace Go.Proofs.YtnflgfpicigajaaDoor.Qu
open Go.RowKit Go.Maps Go.Sort Go.Shelf Nt
set_option maxRecDepth 100000

set_option maxHeartbeats 1000000 in
theorem values_any (ao : Option Addr) (n cap : Nat) (w : World) : Calls Tryd.prog 34 #[.slice ao n cap] w fun e w' => e = .returned (.func (.func 41) #[] #[.pointer (some ⟨w.heap.size, 0, none⟩)]) ∧ w' = w.alloc (.cells #[.slice ao n cap] 23) := by
  go_enter Tryd.func34, Tryd.ntmps34
  go_wp2
  go_ret
  exact ⟨rfl, rfl⟩
theorem apseq_any (Bs b off len cap : Nat) (zs : List Int) (hl : zs.length = len) (hreach : len ≤ 17592186043904) (w : World)
    (hBs : w.cell? ⟨Bs, 0, none⟩ = some (.slice (some ⟨b, off, none⟩) len cap)) (hc : ∀ j, j < len → w.cell? ⟨b, off + j, none⟩ = some (.int .i64 (zs.getD j 0))) :
    Calls Tryd.prog 47 #[.slice none 0 0, .func (.func 41) #[] #[.pointer (some ⟨Bs, 0, none⟩)]] w fun e w' => ∃ (v : Value), e = .returned v ∧ w'.ownsRow w.heap.size 3 1 v zs.length (zs.map encZ) ∧ Below w.heap.size w w' :=
  callsIn_wide.1 (apseq_in Fence.wide 2 trivial trivial rfl (Nat.le_refl _) Bs b off len cap zs hl hreach w hBs hc)
set_option maxHeartbeats 1000000 in
theorem collect_any (Bs b off len cap : Nat) (zs : List Int) (hl : zs.length = len) (hreach : len ≤ 17592186043904) (w : World)
    (hBs : w.cell? ⟨Bs, 0, none⟩ = some (.slice (some ⟨b, off, none⟩) len cap)) (hc : ∀ j, j < len → w.cell? ⟨b, off + j, none⟩ = some (.int .i64 (zs.getD j 0))) :
    Calls Tryd.prog 39 #[.func (.func 41) #[] #[.pointer (some ⟨Bs, 0, none⟩)]] w fun e w' => ∃ (v : Value), e = .returned v ∧ Hid (w'.ownsRow w.heap.size 3 1 v zs.length (zs.map encZ)) ∧ Hid (Below w.heap.size w w') := by
  have HC := hide (apseq_any Bs b off len cap zs hl hreach w hBs hc)
  clear hBs hc
  go_enter Tryd.func39, Tryd.ntmps39
  go_wp2_with fail
  refine (unhide HC).mono ?_
  rintro e w2 ⟨v, rfl, h1, h2⟩
  have H1 := hide h1
  have H2 := hide h2
  clear h1 h2
  go_wp2
  go_ret
  exact ⟨_, rfl, unhide H1, unhide H2⟩
theorem sort_any (g cap : Nat) (zs : List Int) (w : World) (hH : Holds encZ w g 0 zs.toArray) (hg : g < w.heap.size) (hs : zs.length < 4611686018427387904) :
    Calls Tryd.prog 40 #[.slice (some ⟨g, 0, none⟩) zs.length cap] w fun e w' => e = .returned (.tuple #[]) ∧ ∃ n os, w' = grow (putRow encZ (Sort.ahead w n) g 0 (srt zs).toArray) os :=
  AnyM.slices_Sort_int Tryd.srtI g 0 cap zs w hH hg hs
set_option maxHeartbeats 2000000 in
theorem sorted_any (Bs b off len cap : Nat) (zs : List Int) (hl : zs.length = len) (h1 : 1 ≤ len) (hreach : len ≤ 17592186043904) (w : World)
    (hBs : w.cell? ⟨Bs, 0, none⟩ = some (.slice (some ⟨b, off, none⟩) len cap)) (hc : ∀ j, j < len → w.cell? ⟨b, off + j, none⟩ = some (.int .i64 (zs.getD j 0))) :
    Calls Tryd.prog 33 #[.func (.func 41) #[] #[.pointer (some ⟨Bs, 0, none⟩)]] w fun e w' => ∃ ao c, e = .returned (.slice ao len c) ∧ Hid (Ls w' ao len c (srt zs)) ∧ Hid (Below w.heap.size w w') := by
  have HC := hide (collect_any Bs b off len cap zs hl hreach w hBs hc)
  have HL := hide hl
  clear hBs hc hl
  go_enter Tryd.func33, Tryd.ntmps33
  go_wp2_with fail
  refine (unhide HC).mono ?_
  rintro e w2 ⟨v, rfl, HR, HB⟩
  have hr : w2.ownsRow w.heap.size 3 1 v len (zs.map encZ) := by
    have := unhide HR
    rw [unhide HL] at this
    exact this
  clear HR
  have hr := hr.2
  rcases hr with ⟨_, h0⟩ | ⟨g, c, cur, rfl, hB, hg, q1, q2, q3, q4⟩
  · omega
  · have hS := sort_any g c zs w2 (holds_of_block_i hg (by rw [unhide HL]; simpa using q4)) (Array.getElem?_eq_some_iff.1 hg).1 (by rw [unhide HL]; omega)
    rw [unhide HL] at hS
    have HS := hide hS
    have HBB := hide hB
    have HOW : Hid (∀ n os, (grow (putRow encZ (Sort.ahead w2 n) g 0 (srt zs).toArray) os).ownsRow w.heap.size 3 1 (.slice (some ⟨g, 0, none⟩) len c) len ((srt zs).map (Value.int .i64)) ∧ Below w.heap.size w (grow (putRow encZ (Sort.ahead w2 n) g 0 (srt zs).toArray) os)) := fun n os => by
      refine ⟨?_, (unhide HB).grown (grownBy_sorted_i _) (unhide HB).size (fun j hj => by cases hj; exact hB)⟩
      have := ownsRow_sorted_i (n := n) (os := os) (ts := srt zs) (ss := zs) (srt_len zs) hB hg (by rw [unhide HL]; exact q1) q2 q3
      rw [unhide HL] at this
      exact this
    clear hS hB hg q1 q2 q3 q4
    go_wp2_with fail
    refine (unhide HS).mono ?_
    rintro e w3 ⟨rfl, nn, os, hw3⟩
    have HW := hide hw3
    clear hw3
    go_wp2
    go_ret
    refine ⟨_, _, rfl, ?_, ?_⟩
    · rw [unhide HW]; exact ls_of_owns (unhide HOW nn os).1 hreach
    · rw [unhide HW]; exact (unhide HOW nn os).2
/-- one is below 0 -/
def negB (l : List Int) : Bool := l.any (fun x => decide (x < 0))
set_option maxHeartbeats 2000000 in
theorem ixf_any (ao : Option Addr) (n cap : Nat) (l : List Int) (w : World) (h : Ls w ao n cap l) :
    Calls Tryd.prog 38 #[.slice ao n cap, .func (.func 32) #[] #[]] w fun e w' => (∃ z, e = .returned (.int .i64 z) ∧ Hid ((negB l = true ∧ 0 ≤ z) ∨ (negB l = false ∧ z = -1))) ∧ w' = w := by
  have H := hide h
  have hmx := h.2.2.2.1
  have HL := hide h.1
  have HC := hide (fun x => below_any x w)
  clear h
  go_enter Tryd.func38, Tryd.ntmps38
  go_wp2
  go_loopw [8] (fun i wr => ∃ k : Nat, k ≤ n ∧ i = .int .i64 k ∧ wr = w ∧ Hid (∀ j, j < k → 0 ≤ l.getD j 0)) (fun i _ => n - (intOf i).toNat)
  case atStart => exact ⟨0, Nat.zero_le _, rfl, rfl, fun j hj => absurd hj (Nat.not_lt_zero j)⟩
  case round =>
    obtain ⟨k, hk, rfl, rfl, HN⟩ := hrel
    by_cases hlt : k < n
    · obtain ⟨b, off, rfl, hc⟩ := (unhide H).at hlt
      have HM : Hid (l.getD k 0 ∈ l) := mem_getD (by rw [unhide HL]; exact hlt)
      have HS := hide (fun (h2 : 0 ≤ l.getD k 0) => upto_snoc (p := fun x => 0 ≤ x) (unhide HN) h2)
      generalize l.getD k 0 = y at hc HM HS
      have HCy := hide (unhide HC y)
      obtain ⟨d, hd⟩ : ∃ d, d = decide (y < 0) := ⟨_, rfl⟩
      rw [← hd] at HCy
      have HD := hide hd
      clear hd
      go_wp2_with fail
      refine (unhide HCy).mono ?_
      rintro e w1 ⟨rfl, hw⟩
      obtain rfl := hw.symm
      cases d
      · have HS2 := hide (unhide HS (by have := of_decide_eq_false (unhide HD).symm; omega))
        clear HM HS HD
        go_wp2
        go_roundw
        case rel => exact ⟨k + 1, by omega, by go_num, by first | rfl | trivial, HS2⟩
        case measure => simp [intOf]; omega
      · have HT : Hid (negB l = true) := by
          show _ = _
          unfold negB
          rw [List.any_eq_true]
          exact ⟨y, unhide HM, (unhide HD).symm⟩
        clear HM HS HD
        go_wp2
        go_ret
        exact ⟨⟨_, rfl, .inl ⟨unhide HT, by omega⟩⟩, rfl⟩
    · obtain rfl : k = n := by omega
      have HF : Hid (negB l = false) := by
        show _ = _
        unfold negB
        rw [List.any_eq_false]
        intro x hx
        have := upto_all (p := fun x => 0 ≤ x) (fun j hj => unhide HN j (by rw [← unhide HL]; exact hj)) x hx
        simpa using this
      go_wp2
      go_ret
      exact ⟨⟨_, rfl, .inr ⟨unhide HF, rfl⟩⟩, rfl⟩
set_option maxHeartbeats 2000000 in
theorem contf_any (ao : Option Addr) (n cap : Nat) (l : List Int) (w : World) (h : Ls w ao n cap l) :
    Calls Tryd.prog 31 #[.slice ao n cap, .func (.func 32) #[] #[]] w fun e w' => e = .returned (.bool (negB l)) ∧ w' = w := by
  have HC := hide (ixf_any ao n cap l w h)
  obtain ⟨d, hd⟩ : ∃ d, d = negB l := ⟨_, rfl⟩
  rw [← hd] at HC
  rw [← hd]
  clear hd h
  go_enter Tryd.func31, Tryd.ntmps31
  go_wp2_with fail
  refine (unhide HC).mono ?_
  rintro e w1 ⟨⟨z, rfl, HZ⟩, hw⟩
  obtain rfl := hw.symm
  rcases unhide HZ with ⟨h1, h2⟩ | ⟨h1, rfl⟩
  · have HT := hide h1
    have h3 : decide (z ≥ 0) = true := decide_eq_true h2
    clear h1 HZ
    go_wp2
    go_ret
    exact ⟨ret_bool (unhide HT).symm, rfl⟩
  · have HT := hide h1
    clear h1 HZ
    go_wp2
    go_ret
    exact ⟨ret_bool (unhide HT).symm, rfl⟩
/-- indexes that fit the members -/
def fitB (m l : List Int) : Bool := decide (Mem m) && decide (l.length = m.length) && !negB l
/-- what Index answers -/
def IdxR (m l : List Int) (e : Ending) (w w' : World) : Prop := (fitB m l = true ∧ e = .returned (.tuple #[.int .i64 (idxQ l), .nilIface]) ∧ Below w.heap.size w w') ∨ (fitB m l = false ∧ ∃ x, e = .returned (.tuple #[.int .i64 0, .iface 62 x]) ∧ ErB w' (.iface 62 x) 1 ∧ Below w.heap.size w w')
set_option maxHeartbeats 4000000 in
theorem idx_any (a1 a2 : Option Addr) (n1 c1 n2 c2 : Nat) (m l : List Int) (w : World) (h1 : Ls w a1 n1 c1 m) (h2 : Ls w a2 n2 c2 l) :
    Calls Tryd.prog 15 #[.slice a1 n1 c1, .slice a2 n2 c2] w fun e w' => IdxR m l e w w' := by
  have H2 := hide h2
  have HK := hide (chk_any a1 n1 c1 m w h1)
  have HN := hide (contf_any a2 n2 c2 l w h2)
  have hx1 := h1.2.2.2.1
  have hx2 := h2.2.2.2.1
  have HL1 := hide h1.1
  have HL2 := hide h2.1
  clear h1 h2
  go_enter Tryd.func15, Tryd.ntmps15
  go_wp2_with fail
  refine (unhide HK).mono ?_
  rintro e w1 hr
  rcases hr with ⟨hM, rfl, hw⟩ | ⟨hM, x, rfl, hE, hb⟩
  · obtain rfl := hw.symm
    have hn7 : n1 ≤ 7 := by have := hM.len7; rw [unhide HL1] at this; exact this
    have HM := hide (decide_eq_true hM)
    clear hM
    by_cases he : n2 = n1
    · subst he
      obtain ⟨d, hd⟩ : ∃ d, d = negB l := ⟨_, rfl⟩
      have HD := hide hd
      rw [← hd] at HN
      clear hd
      have HFT : Hid (fitB m l = !d) := by
        show _ = _
        unfold fitB
        rw [unhide HM, unhide HD, unhide HL1, unhide HL2, decide_eq_true rfl]
        rfl
      go_wp2_with fail
      refine (unhide HN).mono ?_
      rintro e w2 ⟨rfl, hw⟩
      obtain rfl := hw.symm
      cases d
      · by_cases h0 : n2 = 0
        · subst h0
          have HZ : Hid (idxQ l = 0) := by
            have : l = [] := List.length_eq_zero_iff.1 (unhide HL2)
            subst this
            show idxQ [] = 0
            simp [idxQ, srt]
          go_wp2
          go_returns
          exact .inl ⟨unhide HFT, by rw [unhide HZ]; rfl, Below.refl _ _⟩
        · have hz : ((n2 : Int) == 0) = false := beq_eq_false_iff_ne.2 (by omega)
          obtain ⟨b, off, rfl, _⟩ := (unhide H2).at (show 0 < n2 by omega)
          have HB1 : Hid (Below w.heap.size w (w.alloc (.cells #[.slice (some ⟨b, off, none⟩) n2 c2] 23))) := (Below.refl _ _).alloc (Nat.le_refl _) _
          have HSo := hide (sorted_any w.heap.size b off n2 c2 l (unhide HL2) (by omega) hx2 (w.alloc (.cells #[.slice (some ⟨b, off, none⟩) n2 c2] 23)) (by simp) (fun j hj => by
            obtain ⟨b', off', e, hc⟩ := ((unhide H2).below (unhide HB1)).at hj
            cases e
            exact hc))
          go_wp2_with fail
          refine (values_any _ _ _ _).mono ?_
          rintro e w3 ⟨rfl, hw3⟩
          obtain rfl := hw3.symm
          clear hw3
          go_wp2_with fail
          refine (unhide HSo).mono ?_
          rintro e w4 ⟨ao, c, rfl, HS, HB⟩
          have HB4 : Hid (Below w.heap.size w w4) := bnx (unhide HB1) (unhide HB)
          obtain ⟨j, hj⟩ : ∃ j : Nat, j = n2 - (n2 / 2 + 1) := ⟨_, rfl⟩
          have hjl : j < n2 := by omega
          obtain ⟨b4, off4, rfl, hc4⟩ := (unhide HS).at hjl
          have HI : Hid (idxQ l = (srt l).getD j 0) := by
            show _ = _
            unfold idxQ
            rw [unhide HL2, hj]
          have hwj : IntKind.i64.wrap ((n2 : Int) - ((n2 / 2 + 1 : Nat) : Int)) = (j : Int) := by rw [IntKind.wrap_i64]; omega
          have hwj2 : wrap64 ((n2 : Int) - ((n2 / 2 + 1 : Nat) : Int)) = (j : Int) := by unfold wrap64; omega
          generalize (srt l).getD j 0 = y at HI hc4
          clear hj HSo HB HS
          go_wp2_with fail
          refine (most_any _ _ _ _ hx1).mono ?_
          rintro e w5 ⟨rfl, hw5⟩
          obtain rfl := hw5.symm
          clear hw5
          generalize ((n2 / 2 + 1 : Nat) : Int) = q at hwj hwj2 ⊢
          go_wp2
          go_returns
          exact .inl ⟨unhide HFT, by rw [unhide HI]; rfl, unhide HB4⟩
      · go_wp2_with fail
        refine (fault_n 1 _).mono ?_
        rintro e w3 ⟨x, rfl, HER, HB2⟩
        go_wp2
        go_returns
        exact .inr ⟨unhide HFT, _, rfl, unhide HER, unhide HB2⟩
    · have hne : ((n2 : Int) == (n1 : Int)) = false := beq_eq_false_iff_ne.2 (by omega)
      have hne2 : ((n2 : Int) != (n1 : Int)) = true := by unfold bne; rw [hne]; rfl
      have HFT : Hid (fitB m l = false) := by
        show _ = _
        unfold fitB
        rw [unhide HL1, unhide HL2, decide_eq_false he]
        simp
      clear he
      go_wp2_with fail
      refine (fault_n 1 _).mono ?_
      rintro e w3 ⟨x, rfl, HER, HB2⟩
      go_wp2
      go_returns
      exact .inr ⟨unhide HFT, _, rfl, unhide HER, unhide HB2⟩
  · have HFT : Hid (fitB m l = false) := by
      show _ = _
      unfold fitB
      rw [decide_eq_false hM]
      simp
    have HE := hide hE
    have HB := hide hb
    clear hM hE hb
    go_wp2
    go_returns
    exact .inr ⟨unhide HFT, _, rfl, unhide HE, unhide HB⟩
end Go.Proofs.YtnflgfpicigajaaDoor.Qu
