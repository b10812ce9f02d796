/- Proved here: bytes as plain numbers; the contract of the page's Sum. Helper contract. -/
import Derived.Test.YtlomlhnmkhngjaaProg
import Derived.Test.YtlomlhnmkhngjaaZCPlain
import Derived.Laws.BitsAllLaws
namespace Go.Proofs.Ytlomlhnmkhngjaa.C
open Go.RowKit
set_option maxRecDepth 100000

/-- the value reads as these bytes, as plain numbers -/
def Nbs (w : World) (v : Value) (l : List Nat) : Prop := ∃ ao cap, v = .slice ao l.length cap ∧ (l.length ≤ cap ∧ cap ≤ maxLen) ∧ (∀ x ∈ l, x < 256) ∧ (l = [] ∨ ∃ b off, ao = some ⟨b, off, none⟩ ∧ ∀ j, j < l.length → w.cell? ⟨b, off + j, none⟩ = some (.int .u8 ((l.getD j 0 : Nat) : Int)))
/-- the operations on the register, as the model tells them -/
theorem op_neg (s : Nat) (h : s < 4294967296) : bits .xor .u32 IntKind.u32.max (s : Int) = ((4294967295 ^^^ s : Nat) : Int) := u32_xor_nat 4294967295 s (by decide) h
theorem op_xor (r x : Nat) (hr : r < 4294967296) (hx : x < 256) : bits .xor .u32 (r : Int) (x : Int) = ((r ^^^ x : Nat) : Int) := u32_xor_nat r x hr (by omega)
theorem op_one (c : Nat) (h : c < 4294967296) : bits .and .u32 (c : Int) 1 = ((c % 2 : Nat) : Int) := by
  rw [show (1 : Int) = ((1 : Nat) : Int) from rfl, u32_and_nat c 1 h (by decide), Nat.and_one_is_mod]
theorem op_st1 (c : Nat) (h : c < 4294967296) (h1 : c % 2 = 1) : bits .xor .u32 ((c : Int) / 2) 3988292384 = ((st c : Nat) : Int) := by
  rw [show (c : Int) / 2 = ((c / 2 : Nat) : Int) from by omega, show (3988292384 : Int) = ((3988292384 : Nat) : Int) from rfl, u32_xor_nat (c / 2) 3988292384 (by omega) (by decide)]
  unfold st
  rw [if_pos h1]
theorem op_st0 (c : Nat) (h1 : ¬ c % 2 = 1) : (c : Int) / 2 = ((st c : Nat) : Int) := by
  unfold st
  rw [if_neg h1]
  omega
set_option maxHeartbeats 4000000 in
theorem rsum_core (b off cap : Nat) (s : Nat) (l : List Nat) (len : Nat) (w : World) (hs : s < 4294967296) (hlen : l.length = len) (hmx : len ≤ 140737488351232) (hr : ∀ x ∈ l, x < 256) (hc : ∀ j, j < l.length → w.cell? ⟨b, off + j, none⟩ = some (.int .u8 ((l.getD j 0 : Nat) : Int))) :
    Calls Try.prog 7 #[.int .u32 s, .slice (some ⟨b, off, none⟩) len cap] w fun e w' => e = .returned (.int .u32 (crc s l : Nat)) ∧ w' = w := by
  have hsg : ¬ IntKind.u32.signed = true := by decide
  have HC := hide hc
  have HR := hide hr
  have HLEN := hide hlen
  have hng := op_neg s hs
  have hnl := neg_lt hs
  have HCR : Hid (crc s l = 4294967295 ^^^ run (4294967295 ^^^ s) l) := rfl
  generalize 4294967295 ^^^ s = r0 at hng hnl HCR
  generalize crc s l = res at HCR ⊢
  clear hc hr hlen
  go_enter Try.func7, Try.ntmps7
  go_wp2
  go_loopw [5, 6] (fun c i wr => ∃ (k r : Nat), k ≤ len ∧ i = .int .i64 k ∧ c = .int .u32 r ∧ r < 4294967296 ∧ Hid (run r0 (l.take k) = r) ∧ wr = w) (fun _ i _ => len - (intOf i).toNat)
  case atStart => exact ⟨0, r0, Nat.zero_le _, rfl, rfl, hnl, rfl, rfl⟩
  case round =>
    obtain ⟨k, r, hk, rfl, rfl, hr4, HRN, hwr⟩ := hrel
    obtain rfl : w = wr := hwr.symm
    clear hng
    by_cases hlt : k < len
    · have hkl : k < l.length := by rw [unhide HLEN]; exact hlt
      have h0 := (unhide HC) k hkl
      have HSN := hide (run_snoc r0 l k hkl)
      have hx : l.getD k 0 < 256 := (unhide HR) _ (by rw [List.getD_eq_getElem?_getD, List.getElem?_eq_getElem hkl]; exact List.getElem_mem hkl)
      generalize l.getD k 0 = x at h0 hx HSN
      have hox := op_xor r x hr4 hx
      have hxl : r ^^^ x < 4294967296 := xor_lt hr4 (by omega)
      have HB : Hid (run r0 (l.take (k + 1)) = st8 (r ^^^ x)) := by show _ = _; rw [unhide HSN, unhide HRN]; rfl
      generalize r ^^^ x = c0 at hox hxl HB
      clear hkl HSN
      go_wp2
      clear hox h0
      go_loopw [5, 7] (fun c i wr => ∃ (j : Nat), j ≤ 8 ∧ i = .int .i64 j ∧ c = .int .u32 ((stn j c0 : Nat) : Int) ∧ wr = w) (fun _ i _ => 8 - (intOf i).toNat)
      case atStart => exact ⟨0, by omega, rfl, rfl, rfl⟩
      case round =>
        obtain ⟨j, hj, rfl, rfl, hwi⟩ := hrel
        obtain rfl : w = wr := hwi.symm
        by_cases hj8 : j < 8
        · have hcl := stn_lt hxl j
          have HST : Hid (stn (j + 1) c0 = st (stn j c0)) := rfl
          generalize stn j c0 = c at hcl HST
          have ho1 := op_one c hcl
          by_cases h1 : c % 2 = 1
          · rw [h1] at ho1
            have hs1 := op_st1 c hcl h1
            rw [← unhide HST] at hs1
            clear h1
            go_wp2
            go_roundw
            case rel => exact ⟨j + 1, by omega, by go_num, rfl, trivial⟩
            case measure => simp [intOf]; omega
          · have h0 : c % 2 = 0 := by omega
            rw [h0] at ho1
            have hs0 := op_st0 c h1
            rw [← unhide HST] at hs0
            clear h1 h0
            go_wp2
            go_roundw
            case rel => exact ⟨j + 1, by omega, by go_num, by rw [← hs0], trivial⟩
            case measure => simp [intOf]; omega
        · obtain rfl : j = 8 := by omega
          rw [stn8]
          have hl8 := st8_lt hxl
          generalize st8 c0 = c8 at HB hl8
          go_wp2
          exact ⟨⟨k + 1, c8, by omega, by go_num, rfl, hl8, unhide HB, trivial⟩, by simp [intOf]; omega⟩
    · obtain rfl : k = len := by omega
      have hng := op_neg r hr4
      have HRES : Hid (res = 4294967295 ^^^ r) := by show _ = _; rw [unhide HCR, ← unhide HRN, List.take_of_length_le (Nat.le_of_eq (unhide HLEN))]
      generalize 4294967295 ^^^ r = z at hng HRES
      go_wp2
      go_ret
      exact ⟨by rw [unhide HRES]; rfl, rfl⟩
theorem rsum_any (s : Nat) (v : Value) (l : List Nat) (w : World) (hs : s < 4294967296) (h : Nbs w v l) (hmx : l.length ≤ 140737488351232) : Calls Try.prog 7 #[.int .u32 s, v] w fun e w' => e = .returned (.int .u32 (crc s l : Nat)) ∧ w' = w := by
  obtain ⟨ao, cap, rfl, _, hr, rfl | ⟨b, off, rfl, hc⟩⟩ := h
  · have hsg : ¬ IntKind.u32.signed = true := by decide
    have hng := op_neg s hs
    have hnl := neg_lt hs
    have HCR : Hid (crc s [] = 4294967295 ^^^ (4294967295 ^^^ s)) := rfl
    have hn2 := op_neg _ hnl
    generalize 4294967295 ^^^ s = r0 at hng hnl HCR hn2
    generalize crc s [] = res at HCR ⊢
    generalize 4294967295 ^^^ r0 = z at HCR hn2
    go_enter Try.func7, Try.ntmps7
    go_wp2
    refine wp_loop_rounds 1 ?_
    rw [rounds_succ]
    go_wp2
    go_ret
    exact ⟨by rw [unhide HCR]; rfl, rfl⟩
  · exact rsum_core b off cap s l _ w hs rfl hmx hr hc
end Go.Proofs.Ytlomlhnmkhngjaa.C
