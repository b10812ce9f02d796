/- Proved here: quorum.Parse, the page's Parse. Helper contracts. -/
import Derived.Test.YtmmhdhpocjnlbaaGreatDoorM4
import Derived.Test.YtmmhdhpocjnlbaaGreatDoorZUCv
namespace Go.Proofs.YtmmhdhpocjnlbaaGreatDoor.Qu
open Go.RowKit Nt
set_option maxRecDepth 100000

theorem infoI : (Tryz.prog.info? 3).map (fun i => (i.zero, i.size, i.bytes)) = some (some (.int .i64 0), 1, 8) := by kernel_rfl
theorem ls_of_owns {w : World} {B : Nat} {e : TypeId} {ao : Option Addr} {n cap : Nat} {l : List Int} (h : w.ownsRow B e 1 (.slice ao n cap) n (l.map (Value.int .i64))) (hx : n ≤ 17592186043904) : Ls w ao n cap l := by
  have hl : l.length = n := by have := h.1; simpa using this
  rcases h.2 with ⟨h1, h2⟩ | ⟨g, cap', cur, hv, hB, hg, h1, h2, h3, h4⟩
  · cases h1
    exact ⟨hl, by omega, ⟨by decide, fun _ => rfl⟩, hx, .inl h2⟩
  · cases hv
    refine ⟨hl, h1, ⟨h2, fun e => by cases e⟩, hx, .inr ⟨g, 0, rfl, fun j hj => ?_⟩⟩
    rw [Nat.zero_add, h.cellAt j (by omega), List.getElem?_map, List.getElem?_eq_getElem hj, List.getD_eq_getElem?_getD, List.getElem?_eq_getElem hj]
    rfl
/-- a row of one's own, with its place -/
def OwnI (w : World) (B : Nat) (ao : Option Addr) (n cap : Nat) (l : List Int) : Prop := w.ownsRow B 3 1 (.slice ao n cap) n (l.map (Value.int .i64)) ∧ n ≤ 17592186043904
theorem OwnI.ls {w : World} {B : Nat} {ao : Option Addr} {n cap : Nat} {l : List Int} (h : OwnI w B ao n cap l) : Ls w ao n cap l := ls_of_owns h.1 h.2
theorem OwnI.of {w : World} {B : Nat} {v : Value} {n : Nat} {l : List Int} (h : w.ownsRow B 3 1 v n (l.map (Value.int .i64))) (hx : n ≤ 17592186043904) : ∃ ao cap, v = .slice ao n cap ∧ OwnI w B ao n cap l := by
  obtain ⟨ao, cap, rfl⟩ := owns_slice h
  exact ⟨ao, cap, rfl, h, hx⟩
set_option maxHeartbeats 4000000 in
theorem rpar_any (s : ByteArray) (w : World) (hs : s.size ≤ 17592186043904) :
    Calls Tryz.prog 44 #[.string s] w fun e w' => (∃ ao n cap, e = .returned (.tuple #[.slice ao n cap, .bool (decide (Mem (sb s)))]) ∧ Hid (OwnI w' w.heap.size ao n cap (sb s))) ∧ Hid (Below w.heap.size w w') := by
  obtain ⟨i0, hi, hz0, hz1, hz2⟩ := info_parts infoI
  obtain ⟨d, hd⟩ : ∃ d, d = decide (Mem (sb s)) := ⟨_, rfl⟩
  have HD := hide hd
  rw [← hd]
  clear hd
  have HL := hide (sb_length s)
  go_enter Tryz.func44, Tryz.ntmps44
  go_wp2
  go_loopw [4, 5] (fun v i wr => ∃ k : Nat, k ≤ s.size ∧ i = .int .i64 k ∧ Hid (wr.ownsRow w.heap.size 3 1 v k (((sb s).take k).map (Value.int .i64))) ∧ Below w.heap.size w wr) (fun _ i _ => s.size - (intOf i).toNat)
  case atStart => exact ⟨0, Nat.zero_le _, rfl, World.ownsRow_nil _ _ _ _, Below.refl _ _⟩
  case round =>
    obtain ⟨k, hk, rfl, HOWN, hbel⟩ := hrel
    by_cases hlt : k < s.size
    · have HPS : Hid (((sb s).take (k + 1)).map (Value.int .i64) = ((sb s).take k).map (Value.int .i64) ++ [.int .i64 ((s[k].toNat : Nat) : Int)]) := by
        show _ = _
        rw [take_snocI (sb s) k (by rw [sb_length]; exact hlt), List.map_append, sb_get s k hlt]; rfl
      have HBEL := hide hbel
      have hsz := hbel.size
      have hx64 : wrap64 ((s[k].toNat : Nat) : Int) = ((s[k].toNat : Nat) : Int) := by have := s[k].toNat_lt; unfold wrap64; omega
      clear hbel
      go_wp2_with (first
        | (at_builtin; refine wpList_append_own _ rfl _ _ 25 rfl w.heap.size 3 i0 _ 1 8 Tryz.underlying25 hi hz0 hz1 hz2 rfl (by decide) _ _ _ rfl ((unhide HOWN).alloc _) ⟨wr.heap.size, 0, none⟩ 1 1 [.int .i64 ((s[k].toNat : Nat) : Int)] rfl rfl (one_cell _ _ _) (fun u hu => by simp at hu; subst hu; rfl) (by unfold maxLen; omega) (by omega) (by simp; omega) ?_)
        | go_in)
      intro v' w1 hown' hgrow _
      have HB1 : Hid (Below w.heap.size w w1) := ((unhide HBEL).alloc hsz _).grown hgrow (by simp; omega) (fun k hk => ((unhide HOWN).lt k hk).1)
      have HO1 : Hid (w1.ownsRow w.heap.size 3 1 v' (k + 1) (((sb s).take (k + 1)).map (Value.int .i64))) := by show World.ownsRow _ _ _ _ _ _ _; rw [unhide HPS]; first | exact hown' | (rw [List.map_take]; exact hown')
      clear hgrow hown'
      go_wp2
      go_roundw
      case rel => exact ⟨k + 1, by omega, by go_num, HO1, unhide HB1⟩
      case measure => simp [intOf]; omega
    · obtain rfl : k = s.size := by omega
      have HO : ∃ ao cap, u4 = .slice ao s.size cap ∧ OwnI wr w.heap.size ao s.size cap (sb s) := by
        have := unhide HOWN
        rw [List.take_of_length_le (Nat.le_of_eq (sb_length s))] at this
        exact OwnI.of this hs
      obtain ⟨ao, cap, rfl, ho⟩ := HO
      have HO := hide ho
      have HBEL := hide hbel
      have HRM := hide (rmem_any ao s.size cap (sb s) wr ho.ls)
      rw [← unhide HD] at HRM
      clear ho hbel HOWN
      go_wp2_with fail
      refine (unhide HRM).mono ?_
      rintro e w2 ⟨rfl, q, rfl⟩
      go_wp2
      go_returns
      exact ⟨⟨_, _, _, rfl, unhide HO⟩, below_drewN (unhide HBEL) _⟩
/-- what Parse answers -/
def ParR (s : ByteArray) (e : Ending) (w w' : World) : Prop := (Mem (sb s) ∧ ∃ ao n cap, e = .returned (.tuple #[.slice ao n cap, .nilIface]) ∧ OwnI w' w.heap.size ao n cap (sb s) ∧ Below w.heap.size w w') ∨ (¬ Mem (sb s) ∧ ∃ x, e = .returned (.tuple #[.slice none 0 0, .iface 64 x]) ∧ ErB w' (.iface 64 x) 1 ∧ Below w.heap.size w w')
set_option maxHeartbeats 4000000 in
theorem par_any (s : ByteArray) (w : World) (hs : s.size ≤ 17592186043904) :
    Calls Tryz.prog 68 #[.string s] w fun e w' => ParR s e w w' := by
  obtain ⟨i0, hi, hz0, hz1, hz2⟩ := info_parts infoI
  have HL := hide (sb_length s)
  by_cases h7 : (7 : Int) < (s.size : Int)
  · have HN : Hid (¬ Mem (sb s)) := fun h => by have := h.len7; rw [sb_length] at this; omega
    go_enter Tryz.func68, Tryz.ntmps68
    go_wp2_with fail
    refine (fault_n 1 _).mono ?_
    rintro e w3 ⟨x, rfl, HER, HB2⟩
    go_wp2
    go_returns
    exact .inr ⟨unhide HN, _, rfl, unhide HER, unhide HB2⟩
  · obtain ⟨vb, w1, hcv, hby, hb⟩ := conv_str s (by unfold maxLen; omega) w
    obtain ⟨bo, bc, rfl, hlb, hr, hcs⟩ := hby
    have HR := hide hr
    have HB := hide hb
    have HC := hide hcs
    have hn : (sb s).length = s.size := sb_length s
    obtain ⟨n, hnn⟩ : ∃ n, n = s.size := ⟨_, rfl⟩
    rw [hn, ← hnn] at hcv
    have HNN := hide hnn
    have hn7 : n ≤ 7 := by omega
    rw [← hnn] at h7
    have HLn : Hid ((sb s).length = n) := by show _ = _; rw [hnn]; exact sb_length s
    have hszI : ((s.size : Nat) : Int) = (n : Int) := by rw [hnn]
    clear hcs hr hlb hb hnn hn
    go_enter Tryz.func68, Tryz.ntmps68
    go_wp2
    go_loopw [4, 16] (fun v i wr => ∃ k : Nat, k ≤ n ∧ i = .int .i64 k ∧ Hid (wr.ownsRow w1.heap.size 3 1 v k (((sb s).take k).map (Value.int .i64))) ∧ Below w1.heap.size w1 wr) (fun _ i _ => n - (intOf i).toNat)
    case atStart => exact ⟨0, Nat.zero_le _, rfl, World.ownsRow_nil _ _ _ _, Below.refl _ _⟩
    case round =>
      obtain ⟨k, hk, rfl, HOWN, hbel⟩ := hrel
      by_cases hlt : k < n
      · rcases unhide HC with h0 | ⟨b, off, rfl, hcc⟩
        · exfalso; have := unhide HLn; rw [h0] at this; simp at this; omega
        have hc0 := hcc k (by rw [unhide HLn]; exact hlt)
        have hc1 := (hbel.cell (p := ⟨b, off + k, none⟩) (cell_lt hc0)).trans hc0
        have HPS : Hid (((sb s).take (k + 1)).map (Value.int .i64) = ((sb s).take k).map (Value.int .i64) ++ [.int .i64 ((sb s).getD k 0)]) := by
          show _ = _
          rw [take_snocI (sb s) k (by rw [unhide HLn]; exact hlt), List.map_append]; rfl
        have hx := unhide HR k
        generalize (sb s).getD k 0 = x at hc1 HPS hx
        have hx64 : wrap64 x = x := by unfold wrap64; omega
        have HBEL := hide hbel
        have hsz := hbel.size
        clear hbel hcc hc0 hx
        go_wp2_with (first
          | (at_builtin; refine wpList_append_own _ rfl _ _ 25 rfl w1.heap.size 3 i0 _ 1 8 Tryz.underlying25 hi hz0 hz1 hz2 rfl (by decide) _ _ _ rfl ((unhide HOWN).alloc _) ⟨wr.heap.size, 0, none⟩ 1 1 [.int .i64 x] rfl rfl (one_cell _ _ _) (fun u hu => by simp at hu; subst hu; rfl) (by unfold maxLen; omega) (by omega) (by simp; omega) ?_)
          | go_in)
        intro v' w4 hown' hgrow _
        have HB1 : Hid (Below w1.heap.size w1 w4) := ((unhide HBEL).alloc hsz _).grown hgrow (by simp; omega) (fun k hk => ((unhide HOWN).lt k hk).1)
        have HO1 : Hid (w4.ownsRow w1.heap.size 3 1 v' (k + 1) (((sb s).take (k + 1)).map (Value.int .i64))) := by show World.ownsRow _ _ _ _ _ _ _; rw [unhide HPS]; first | exact hown' | (rw [List.map_take]; exact hown')
        clear hgrow hown'
        go_wp2
        go_roundw
        case rel => exact ⟨k + 1, by omega, by go_num, HO1, unhide HB1⟩
        case measure => simp [intOf]; omega
      · obtain rfl : k = n := by omega
        have HO : ∃ ao cap, u4 = .slice ao k cap ∧ OwnI wr w.heap.size ao k cap (sb s) := by
          have := unhide HOWN
          rw [List.take_of_length_le (Nat.le_of_eq (unhide HLn))] at this
          exact OwnI.of (owns_mono this (unhide HB).size) (by omega)
        obtain ⟨ao, cap, rfl, ho⟩ := HO
        have HO := hide ho
        have HBW : Hid (Below w.heap.size w wr) := bnx (unhide HB) hbel
        have HRM := hide (chk_any ao k cap (sb s) wr ho.ls)
        clear ho hbel HOWN
        go_wp2_with fail
        refine (unhide HRM).mono ?_
        rintro e w2 hr
        rcases hr with ⟨hM, rfl, hw⟩ | ⟨hM, x, rfl, hE, hb⟩
        · obtain rfl := hw.symm
          have HM := hide hM
          clear hM
          go_wp2
          go_returns
          exact .inl ⟨unhide HM, _, _, _, rfl, unhide HO, unhide HBW⟩
        · have HM := hide hM
          have HE := hide hE
          have HB2 := hide (bnx (unhide HBW) hb)
          clear hM hE hb
          go_wp2
          go_returns
          exact .inr ⟨unhide HM, _, rfl, unhide HE, unhide HB2⟩
end Go.Proofs.YtmmhdhpocjnlbaaGreatDoor.Qu
