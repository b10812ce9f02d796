/- Proved here: text.GetBin and dovecoteref1.GetBin tell the bytes with which bytes begin, and how many they are with their length, or that they end too early. Helper contracts. -/
import Derived.Test.YtpfpollejhdbgaaDoorTRefText
namespace Go.Proofs.YtpfpollejhdbgaaDoor
open Go.RowKit

/-- how many bytes the two first ones tell -/
def nb (l : List Int) : Nat := (l.getD 0 0 * 256 + l.getD 1 0).toNat
/-- the bytes themselves -/
def gbs (l : List Int) : ByteArray := bs ((l.drop 2).take (nb l))
theorem conv_bytes (w : World) (b off cap : Nat) (l : List Int) (hr : ∀ j, 0 ≤ l.getD j 0 ∧ l.getD j 0 ≤ 255) (hc : ∀ j, j < l.length → w.cell? ⟨b, off + j, none⟩ = some (.int .u8 (l.getD j 0))) :
    (convert 24 9 (.slice (some ⟨b, off, none⟩) l.length cap)).run Tryd.prog w = .ok (.string (bs l)) w := by
  have h := run_convert_bytes_back (P := Tryd.prog) w 24 9 5 ⟨b, off, none⟩ cap (l.map fun n => UInt8.ofNat n.toNat) Tryd.underlying24 Tryd.underlying5 Tryd.underlying9 (fun j hj => by
    rw [List.length_map] at hj
    have h1 := hr j
    rw [addr_add, hc j hj]
    rw [List.getD_eq_getElem?_getD, List.getElem?_eq_getElem hj] at h1 ⊢
    simp only [Option.getD_some] at h1
    simp only [Option.getD_some, List.getElem_map, UInt8.toNat_ofNat']
    congr 2
    omega)
  rw [List.length_map] at h
  exact h
/-- what two bytes ahead tell, as the walks want it -/
theorem nb_or (l : List Int) (h0 : 0 ≤ l.getD 0 0 ∧ l.getD 0 0 ≤ 255) (h1 : 0 ≤ l.getD 1 0 ∧ l.getD 1 0 ≤ 255) : bits .or .i64 (l.getD 0 0 * 256) (l.getD 1 0) = (nb l : Int) ∧ nb l ≤ 65535 := by
  rw [or_i64 _ _ 8 (by omega) (by omega) (by omega) (by omega) (by omega) (by omega)]
  unfold nb
  omega

theorem take_drop_length (l : List Int) (k n : Nat) (h : k + n ≤ l.length) : ((l.drop k).take n).length = n := by rw [List.length_take, List.length_drop]; omega
theorem take_drop_getD (l : List Int) (k n j : Nat) (hj : j < n) : ((l.drop k).take n).getD j 0 = l.getD (k + j) 0 := by
  rw [List.getD_eq_getElem?_getD, List.getElem?_take, if_pos hj, List.getElem?_drop, ← List.getD_eq_getElem?_getD]
theorem take_drop_range (l : List Int) (k n : Nat) (h : ∀ j, 0 ≤ l.getD j 0 ∧ l.getD j 0 ≤ 255) : ∀ j, 0 ≤ ((l.drop k).take n).getD j 0 ∧ ((l.drop k).take n).getD j 0 ≤ 255 := by
  intro j
  by_cases hj : j < n
  · rw [take_drop_getD l k n j hj]; exact h _
  · rw [List.getD_eq_getElem?_getD, List.getElem?_take, if_neg hj]; simp
/-- the bytes behind the length, turned into a text, in the forms that the walks meet -/
theorem gbs_conv (b off len cap : Nat) (l : List Int) (w : World) (hm : Mem w b off len l) (hl : 2 + nb l ≤ len) :
    ∀ q, (convert 24 9 (.slice (some ⟨b, off + 2, none⟩) (nb l) (cap - 2))).run Tryd.prog (w.drewN q) = .ok (.string (gbs l)) (w.drewN q) := by
  intro q
  have hlen := take_drop_length l 2 (nb l) (by rw [hm.len]; exact hl)
  have h := conv_bytes (w.drewN q) b (off + 2) (cap - 2) ((l.drop 2).take (nb l)) (take_drop_range l 2 _ hm.range) (fun j hj => by
    rw [hlen] at hj
    rw [World.cell?_drewN, take_drop_getD l 2 _ j hj, Nat.add_assoc]
    exact hm.cell (2 + j) (by omega))
  rw [hlen] at h
  exact h
theorem gbs_conv0 (b off : Nat) (l : List Int) (w : World) (h0 : nb l = 0) :
    ∀ q, (convert 24 9 (.slice (some ⟨b, off, none⟩) 0 0)).run Tryd.prog (w.drewN q) = .ok (.string (gbs l)) (w.drewN q) := by
  intro q
  have h := conv_bytes (w.drewN q) b off 0 [] (by intro j; simp) (by intro j hj; simp at hj)
  unfold gbs
  rw [h0]
  exact h

set_option maxRecDepth 100000 in
set_option maxHeartbeats 1000000 in
theorem gb_ok (b off len cap : Nat) (l : List Int) (w : World) (hm : Mem w b off len l) (hl2 : 2 ≤ len) (hl : 2 + nb l ≤ len) (hcap : len ≤ cap) (hcm : cap ≤ maxLen) :
    Calls Tryd.prog 80 #[.slice (some ⟨b, off, none⟩) len cap] w fun e w' => e = .returned (.tuple #[.string (gbs l), .int .i64 (2 + nb l : Nat), .nilIface]) ∧ ∃ q, w' = w.drewN q := by
  unfold maxLen at hcm
  have hc0 := hm.cell0 (by omega)
  have hc1 := hm.cell 1 (by omega)
  have hr0 := hm.range 0
  have hr1 := hm.range 1
  obtain ⟨hor, hn⟩ := nb_or l hr0 hr1
  have hconv := gbs_conv b off len cap l w hm hl
  have hconv0 := gbs_conv0 b off l w
  have HM := hide hm
  clear hm
  generalize hg : gbs l = g at hconv hconv0
  have HG := hide hg
  generalize hnn : nb l = n at hl hor hn hconv hconv0
  have HN := hide hnn
  generalize l.getD 0 0 = c0 at hc0 hr0 hor
  generalize l.getD 1 0 = c1 at hc1 hr1 hor
  clear hg hnn
  by_cases hc2 : cap = 2
  · subst hc2
    obtain rfl : n = 0 := by omega
    obtain rfl : len = 2 := by omega
    have hconv1 := hconv0 rfl
    clear hconv hconv0
    go_enter Tryd.func80, Tryd.ntmps80
    go_wp2
    go_quiet (fail)
    go_wp2
    go_ret3
    exact ⟨rfl, _, rfl⟩
  · clear hconv0
    go_enter Tryd.func80, Tryd.ntmps80
    go_wp2
    go_quiet (fail)
    go_wp2
    go_ret3
    exact ⟨rfl, _, rfl⟩
theorem gb_short2 (ao : Option Addr) (len cap : Nat) (w : World) (hl : len < 2) :
    Calls Tryd.prog 80 #[.slice ao len cap] w fun e w' => e = .returned (.tuple #[.string ⟨#[]⟩, .int .i64 0, .iface 79 (.pointer (some ⟨w.heap.size, 0, none⟩))]) ∧ w' = faultW 3 w := by
  go_enter Tryd.func80, Tryd.ntmps80
  go_wp2_with (go_at_call 85; refine (fault_any _ _).mono ?_; rintro e w' ⟨rfl, rfl⟩)
  go_ret3
  exact ⟨rfl, rfl⟩
set_option maxRecDepth 100000 in
theorem gb_short (b off len cap : Nat) (l : List Int) (w : World) (hm : Mem w b off len l) (hl2 : 2 ≤ len) (hl : len < 2 + nb l) :
    Calls Tryd.prog 80 #[.slice (some ⟨b, off, none⟩) len cap] w fun e w' => e = .returned (.tuple #[.string ⟨#[]⟩, .int .i64 0, .iface 79 (.pointer (some ⟨w.heap.size, 0, none⟩))]) ∧ ∃ q, w' = faultW 3 (w.drewN q) := by
  have hc0 := hm.cell0 (by omega)
  have hc1 := hm.cell 1 (by omega)
  have hr0 := hm.range 0
  have hr1 := hm.range 1
  obtain ⟨hor, hn⟩ := nb_or l hr0 hr1
  have HM := hide hm
  clear hm
  generalize hnn : nb l = n at hl hor hn
  have HN := hide hnn
  generalize l.getD 0 0 = c0 at hc0 hr0 hor
  generalize l.getD 1 0 = c1 at hc1 hr1 hor
  clear hnn
  go_enter Tryd.func80, Tryd.ntmps80
  go_wp2
  go_quiet (fail)
  go_wp2_with (go_at_call 85; refine (fault_any _ _).mono ?_; rintro e w' ⟨rfl, rfl⟩)
  go_ret3
  exact ⟨rfl, _, rfl⟩

set_option maxRecDepth 100000 in
set_option maxHeartbeats 1000000 in
theorem rgb_ok (b off len cap : Nat) (l : List Int) (w : World) (hm : Mem w b off len l) (hl2 : 2 ≤ len) (hl : 2 + nb l ≤ len) (hcap : len ≤ cap) (hcm : cap ≤ maxLen) :
    Calls Tryd.prog 52 #[.slice (some ⟨b, off, none⟩) len cap] w fun e w' => e = .returned (.tuple #[.string (gbs l), .int .i64 (2 + nb l : Nat), .int .i64 0]) ∧ ∃ q, w' = w.drewN q := by
  unfold maxLen at hcm
  have hc0 := hm.cell0 (by omega)
  have hc1 := hm.cell 1 (by omega)
  have hr0 := hm.range 0
  have hr1 := hm.range 1
  obtain ⟨hor, hn⟩ := nb_or l hr0 hr1
  have hconv := gbs_conv b off len cap l w hm hl
  have hconv0 := gbs_conv0 b off l w
  have HM := hide hm
  clear hm
  generalize hg : gbs l = g at hconv hconv0
  have HG := hide hg
  generalize hnn : nb l = n at hl hor hn hconv hconv0
  have HN := hide hnn
  generalize l.getD 0 0 = c0 at hc0 hr0 hor
  generalize l.getD 1 0 = c1 at hc1 hr1 hor
  clear hg hnn
  by_cases hc2 : cap = 2
  · subst hc2
    obtain rfl : n = 0 := by omega
    obtain rfl : len = 2 := by omega
    have hconv1 := hconv0 rfl
    clear hconv hconv0
    go_enter Tryd.func52, Tryd.ntmps52
    go_wp2
    go_quiet (fail)
    go_wp2
    go_ret3
    exact ⟨rfl, _, rfl⟩
  · clear hconv0
    go_enter Tryd.func52, Tryd.ntmps52
    go_wp2
    go_quiet (fail)
    go_wp2
    go_ret3
    exact ⟨rfl, _, rfl⟩
theorem rgb_short2 (ao : Option Addr) (len cap : Nat) (w : World) (hl : len < 2) :
    Calls Tryd.prog 52 #[.slice ao len cap] w fun e w' => e = .returned (.tuple #[.string ⟨#[]⟩, .int .i64 0, .int .i64 3]) ∧ w' = w := by
  go_enter Tryd.func52, Tryd.ntmps52
  go_wp2
  go_ret3
  exact ⟨rfl, rfl⟩
set_option maxRecDepth 100000 in
theorem rgb_short (b off len cap : Nat) (l : List Int) (w : World) (hm : Mem w b off len l) (hl2 : 2 ≤ len) (hl : len < 2 + nb l) :
    Calls Tryd.prog 52 #[.slice (some ⟨b, off, none⟩) len cap] w fun e w' => e = .returned (.tuple #[.string ⟨#[]⟩, .int .i64 0, .int .i64 3]) ∧ ∃ q, w' = w.drewN q := by
  have hc0 := hm.cell0 (by omega)
  have hc1 := hm.cell 1 (by omega)
  have hr0 := hm.range 0
  have hr1 := hm.range 1
  obtain ⟨hor, hn⟩ := nb_or l hr0 hr1
  have HM := hide hm
  clear hm
  generalize hnn : nb l = n at hl hor hn
  have HN := hide hnn
  generalize l.getD 0 0 = c0 at hc0 hr0 hor
  generalize l.getD 1 0 = c1 at hc1 hr1 hor
  clear hnn
  go_enter Tryd.func52, Tryd.ntmps52
  go_wp2
  go_quiet (fail)
  go_wp2
  go_ret3
  exact ⟨rfl, _, rfl⟩

/-- bytes are there in full -/
def full (l : List Int) : Bool := decide (2 ≤ l.length) && decide (2 + nb l ≤ l.length)
theorem gbin_ok (v : Value) (l : List Int) (w : World) (hv : Byt w v l) (h : full l = true) : Calls Tryd.prog 80 #[v] w fun e w' => e = .returned (.tuple #[.string (gbs l), .int .i64 (2 + nb l : Nat), .nilIface]) ∧ ∃ q, w' = w.drewN q := by
  simp only [full, Bool.and_eq_true, decide_eq_true_eq] at h
  obtain ⟨ao, cap, rfl, hlen, hr, hcase⟩ := hv
  rcases hcase with rfl | ⟨b, off, rfl, hc⟩
  · simp at h
  · exact gb_ok b off l.length cap l w ⟨rfl, hc, hr⟩ h.1 h.2 hlen.1 hlen.2
theorem rgbin_ok (v : Value) (l : List Int) (w : World) (hv : Byt w v l) (h : full l = true) : Calls Tryd.prog 52 #[v] w fun e w' => e = .returned (.tuple #[.string (gbs l), .int .i64 (2 + nb l : Nat), .int .i64 0]) ∧ ∃ q, w' = w.drewN q := by
  simp only [full, Bool.and_eq_true, decide_eq_true_eq] at h
  obtain ⟨ao, cap, rfl, hlen, hr, hcase⟩ := hv
  rcases hcase with rfl | ⟨b, off, rfl, hc⟩
  · simp at h
  · exact rgb_ok b off l.length cap l w ⟨rfl, hc, hr⟩ h.1 h.2 hlen.1 hlen.2
theorem gbin_short (v : Value) (l : List Int) (w : World) (hv : Byt w v l) (h : full l = false) : Calls Tryd.prog 80 #[v] w fun e w' => e = .returned (.tuple #[.string ⟨#[]⟩, .int .i64 0, .iface 79 (.pointer (some ⟨w.heap.size, 0, none⟩))]) ∧ ∃ q, w' = faultW 3 (w.drewN q) := by
  simp only [full, Bool.and_eq_false_iff, decide_eq_false_iff_not] at h
  obtain ⟨ao, cap, rfl, hlen, hr, hcase⟩ := hv
  by_cases h2 : l.length < 2
  · refine (gb_short2 ao l.length cap w h2).mono ?_
    rintro e w' ⟨rfl, rfl⟩
    exact ⟨rfl, 0, rfl⟩
  · rcases hcase with rfl | ⟨b, off, rfl, hc⟩
    · simp at h2
    · exact gb_short b off l.length cap l w ⟨rfl, hc, hr⟩ (by omega) (by omega)
theorem rgbin_short (v : Value) (l : List Int) (w : World) (hv : Byt w v l) (h : full l = false) : Calls Tryd.prog 52 #[v] w fun e w' => e = .returned (.tuple #[.string ⟨#[]⟩, .int .i64 0, .int .i64 3]) ∧ ∃ q, w' = w.drewN q := by
  simp only [full, Bool.and_eq_false_iff, decide_eq_false_iff_not] at h
  obtain ⟨ao, cap, rfl, hlen, hr, hcase⟩ := hv
  by_cases h2 : l.length < 2
  · refine (rgb_short2 ao l.length cap w h2).mono ?_
    rintro e w' ⟨rfl, rfl⟩
    exact ⟨rfl, 0, rfl⟩
  · rcases hcase with rfl | ⟨b, off, rfl, hc⟩
    · simp at h2
    · exact rgb_short b off l.length cap l w ⟨rfl, hc, hr⟩ (by omega) (by omega)
end Go.Proofs.YtpfpollejhdbgaaDoor
