/- Proved here: helpers, one text behind the other. -/
import Derived.Test.YtpfpollejhdbgaaDoorM6
import Derived.Test.YtpfpollejhdbgaaDoorM4
/- Proved here: varint.Get and dovecoteref1.Get, at any bytes that are read from memory, tell one and the same answer (vget). Helper contracts. -/
namespace Go.Proofs.YtpfpollejhdbgaaDoor.V
open Go.RowKit
set_option maxRecDepth 100000

/-- an error value: nil (0) or a Fault around a number that is not 0 -/
def ErrS (w : World) (v : Value) (n : Int) : Prop := (n = 0 ∧ v = .nilIface) ∨ (n ≠ 0 ∧ ∃ b, v = .iface 79 (.pointer (some ⟨b, 0, none⟩)) ∧ w.cell? ⟨b, 1, none⟩ = some (.iface 65 (.int .i64 n)))
/-- the page's answer at len bytes whose first are x0 x1 x2 x3 -/
def vgetf (len : Nat) (x0 x1 x2 x3 : Int) : Int × Int × Int :=
  if len = 0 then (0, 0, 3) else
  if x0 < 128 then (x0, 1, 0) else
  if len = 1 then (0, 0, 3) else
  if x1 = 0 then (0, 0, 1) else
  if x1 < 128 then ((x0 - 128) + x1 * 128, 2, 0) else
  if len = 2 then (0, 0, 3) else
  if x2 = 0 then (0, 0, 1) else
  if x2 < 128 then ((x0 - 128) + (x1 - 128) * 128 + x2 * 16384, 3, 0) else
  if len = 3 then (0, 0, 3) else
  if x3 = 0 then (0, 0, 1) else
  if x3 < 128 then ((x0 - 128) + (x1 - 128) * 128 + (x2 - 128) * 16384 + x3 * 2097152, 4, 0) else
  (0, 0, 1)
/-- the page's answer at any bytes -/
def vget (bs : List Int) : Int × Int × Int := vgetf bs.length (bs.getD 0 0) (bs.getD 1 0) (bs.getD 2 0) (bs.getD 3 0)

theorem get_at (b off len cap : Nat) (x0 x1 x2 x3 : Int) (w : World) (hlen : len ≤ maxLen) (hc0 : 0 < len → w.cell? ⟨b, off, none⟩ = some (.int .u8 x0)) (hc1 : 1 < len → w.cell? ⟨b, off + 1, none⟩ = some (.int .u8 x1)) (hc2 : 2 < len → w.cell? ⟨b, off + 2, none⟩ = some (.int .u8 x2)) (hc3 : 3 < len → w.cell? ⟨b, off + 3, none⟩ = some (.int .u8 x3)) (r0 : 0 ≤ x0 ∧ x0 ≤ 255) (r1 : 0 ≤ x1 ∧ x1 ≤ 255) (r2 : 0 ≤ x2 ∧ x2 ≤ 255) (r3 : 0 ≤ x3 ∧ x3 ≤ 255) :
    Calls Tryd.prog 34 #[.slice (some ⟨b, off, none⟩) len cap] w fun e w' => ∃ E, e = .returned (.tuple #[.int .i64 (vgetf len x0 x1 x2 x3).1, .int .i64 (vgetf len x0 x1 x2 x3).2.1, E]) ∧ ErrS w' E (vgetf len x0 x1 x2 x3).2.2 ∧ Below w.heap.size w w' := by
  by_cases ds0 : len = 0
  · have hv : vgetf len x0 x1 x2 x3 = (0, 0, 3) := by unfold vgetf; rw [if_pos ds0]
    rw [hv]
    subst ds0
    refine (get_s0 _ _ _).mono ?_
    rintro e w' ⟨rfl, rfl⟩; exact ⟨_, rfl, .inr ⟨by decide, _, rfl, by simp⟩, (Below.refl _ _).alloc (Nat.le_refl _) _⟩
  · skip
    by_cases do1 : x0 < 128
    · have hv : vgetf len x0 x1 x2 x3 = (x0, 1, 0) := by unfold vgetf; rw [if_neg ds0, if_pos do1]
      rw [hv]
      refine (get_o1 b off len cap x0 w hlen (by omega) (hc0 (by omega)) (by omega) (by omega)).mono ?_
      rintro e w' ⟨rfl, rfl⟩; exact ⟨_, rfl, .inl ⟨rfl, rfl⟩, Below.refl _ _⟩
    · skip
      by_cases ds1 : len = 1
      · have hv : vgetf len x0 x1 x2 x3 = (0, 0, 3) := by unfold vgetf; rw [if_neg ds0, if_neg do1, if_pos ds1]
        rw [hv]
        refine (get_s1 b off len cap x0 w hlen (by omega) (hc0 (by omega)) r0 (by omega)).mono ?_
        rintro e w' ⟨rfl, rfl⟩; exact ⟨_, rfl, .inr ⟨by decide, _, rfl, by simp⟩, (Below.refl _ _).alloc (Nat.le_refl _) _⟩
      · skip
        by_cases dz2 : x1 = 0
        · have hv : vgetf len x0 x1 x2 x3 = (0, 0, 1) := by unfold vgetf; rw [if_neg ds0, if_neg do1, if_neg ds1, if_pos dz2]
          rw [hv]
          refine (get_z2 b off len cap x0 x1 w hlen (by omega) (hc0 (by omega)) r0 (hc1 (by omega)) (by omega) (by assumption)).mono ?_
          rintro e w' ⟨rfl, rfl⟩; exact ⟨_, rfl, .inr ⟨by decide, _, rfl, by simp⟩, (Below.refl _ _).alloc (Nat.le_refl _) _⟩
        · skip
          by_cases do2 : x1 < 128
          · have hv : vgetf len x0 x1 x2 x3 = ((x0 - 128) + x1 * 128, 2, 0) := by unfold vgetf; rw [if_neg ds0, if_neg do1, if_neg ds1, if_neg dz2, if_pos do2]
            rw [hv]
            refine (get_o2 b off len cap x0 x1 w hlen (by omega) (hc0 (by omega)) r0 (hc1 (by omega)) (by omega) (by omega) (by omega)).mono ?_
            rintro e w' ⟨rfl, rfl⟩; exact ⟨_, rfl, .inl ⟨rfl, rfl⟩, Below.refl _ _⟩
          · skip
            by_cases ds2 : len = 2
            · have hv : vgetf len x0 x1 x2 x3 = (0, 0, 3) := by unfold vgetf; rw [if_neg ds0, if_neg do1, if_neg ds1, if_neg dz2, if_neg do2, if_pos ds2]
              rw [hv]
              refine (get_s2 b off len cap x0 x1 w hlen (by omega) (hc0 (by omega)) r0 (hc1 (by omega)) r1 (by omega) (by omega)).mono ?_
              rintro e w' ⟨rfl, rfl⟩; exact ⟨_, rfl, .inr ⟨by decide, _, rfl, by simp⟩, (Below.refl _ _).alloc (Nat.le_refl _) _⟩
            · skip
              by_cases dz3 : x2 = 0
              · have hv : vgetf len x0 x1 x2 x3 = (0, 0, 1) := by unfold vgetf; rw [if_neg ds0, if_neg do1, if_neg ds1, if_neg dz2, if_neg do2, if_neg ds2, if_pos dz3]
                rw [hv]
                refine (get_z3 b off len cap x0 x1 x2 w hlen (by omega) (hc0 (by omega)) r0 (hc1 (by omega)) r1 (hc2 (by omega)) (by omega) (by omega) (by assumption)).mono ?_
                rintro e w' ⟨rfl, rfl⟩; exact ⟨_, rfl, .inr ⟨by decide, _, rfl, by simp⟩, (Below.refl _ _).alloc (Nat.le_refl _) _⟩
              · skip
                by_cases do3 : x2 < 128
                · have hv : vgetf len x0 x1 x2 x3 = ((x0 - 128) + (x1 - 128) * 128 + x2 * 16384, 3, 0) := by unfold vgetf; rw [if_neg ds0, if_neg do1, if_neg ds1, if_neg dz2, if_neg do2, if_neg ds2, if_neg dz3, if_pos do3]
                  rw [hv]
                  refine (get_o3 b off len cap x0 x1 x2 w hlen (by omega) (hc0 (by omega)) r0 (hc1 (by omega)) r1 (hc2 (by omega)) (by omega) (by omega) (by omega) (by omega)).mono ?_
                  rintro e w' ⟨rfl, rfl⟩; exact ⟨_, rfl, .inl ⟨rfl, rfl⟩, Below.refl _ _⟩
                · skip
                  by_cases ds3 : len = 3
                  · have hv : vgetf len x0 x1 x2 x3 = (0, 0, 3) := by unfold vgetf; rw [if_neg ds0, if_neg do1, if_neg ds1, if_neg dz2, if_neg do2, if_neg ds2, if_neg dz3, if_neg do3, if_pos ds3]
                    rw [hv]
                    refine (get_s3 b off len cap x0 x1 x2 w hlen (by omega) (hc0 (by omega)) r0 (hc1 (by omega)) r1 (hc2 (by omega)) r2 (by omega) (by omega) (by omega)).mono ?_
                    rintro e w' ⟨rfl, rfl⟩; exact ⟨_, rfl, .inr ⟨by decide, _, rfl, by simp⟩, (Below.refl _ _).alloc (Nat.le_refl _) _⟩
                  · skip
                    by_cases dz4 : x3 = 0
                    · have hv : vgetf len x0 x1 x2 x3 = (0, 0, 1) := by unfold vgetf; rw [if_neg ds0, if_neg do1, if_neg ds1, if_neg dz2, if_neg do2, if_neg ds2, if_neg dz3, if_neg do3, if_neg ds3, if_pos dz4]
                      rw [hv]
                      refine (get_z4 b off len cap x0 x1 x2 x3 w hlen (by omega) (hc0 (by omega)) r0 (hc1 (by omega)) r1 (hc2 (by omega)) r2 (hc3 (by omega)) (by omega) (by omega) (by omega) (by assumption)).mono ?_
                      rintro e w' ⟨rfl, rfl⟩; exact ⟨_, rfl, .inr ⟨by decide, _, rfl, by simp⟩, (Below.refl _ _).alloc (Nat.le_refl _) _⟩
                    · skip
                      by_cases do4 : x3 < 128
                      · have hv : vgetf len x0 x1 x2 x3 = ((x0 - 128) + (x1 - 128) * 128 + (x2 - 128) * 16384 + x3 * 2097152, 4, 0) := by unfold vgetf; rw [if_neg ds0, if_neg do1, if_neg ds1, if_neg dz2, if_neg do2, if_neg ds2, if_neg dz3, if_neg do3, if_neg ds3, if_neg dz4, if_pos do4]
                        rw [hv]
                        refine (get_o4 b off len cap x0 x1 x2 x3 w hlen (by omega) (hc0 (by omega)) r0 (hc1 (by omega)) r1 (hc2 (by omega)) r2 (hc3 (by omega)) (by omega) (by omega) (by omega) (by omega) (by omega)).mono ?_
                        rintro e w' ⟨rfl, rfl⟩; exact ⟨_, rfl, .inl ⟨rfl, rfl⟩, Below.refl _ _⟩
                      · skip
                        have hv : vgetf len x0 x1 x2 x3 = (0, 0, 1) := by unfold vgetf; rw [if_neg ds0, if_neg do1, if_neg ds1, if_neg dz2, if_neg do2, if_neg ds2, if_neg dz3, if_neg do3, if_neg ds3, if_neg dz4, if_neg do4]
                        rw [hv]
                        refine (get_l4 b off len cap x0 x1 x2 x3 w hlen (by omega) (hc0 (by omega)) r0 (hc1 (by omega)) r1 (hc2 (by omega)) r2 (hc3 (by omega)) r3 (by omega) (by omega) (by omega) (by omega)).mono ?_
                        rintro e w' ⟨rfl, rfl⟩; exact ⟨_, rfl, .inr ⟨by decide, _, rfl, by simp⟩, (Below.refl _ _).alloc (Nat.le_refl _) _⟩

theorem rget_at (b off len cap : Nat) (x0 x1 x2 x3 : Int) (w : World) (hlen : len ≤ maxLen) (hc0 : 0 < len → w.cell? ⟨b, off, none⟩ = some (.int .u8 x0)) (hc1 : 1 < len → w.cell? ⟨b, off + 1, none⟩ = some (.int .u8 x1)) (hc2 : 2 < len → w.cell? ⟨b, off + 2, none⟩ = some (.int .u8 x2)) (hc3 : 3 < len → w.cell? ⟨b, off + 3, none⟩ = some (.int .u8 x3)) (r0 : 0 ≤ x0 ∧ x0 ≤ 255) (r1 : 0 ≤ x1 ∧ x1 ≤ 255) (r2 : 0 ≤ x2 ∧ x2 ≤ 255) (r3 : 0 ≤ x3 ∧ x3 ≤ 255) :
    Calls Tryd.prog 37 #[.slice (some ⟨b, off, none⟩) len cap] w fun e w' => e = .returned (.tuple #[.int .i64 (vgetf len x0 x1 x2 x3).1, .int .i64 (vgetf len x0 x1 x2 x3).2.1, .int .i64 (vgetf len x0 x1 x2 x3).2.2]) ∧ Below w.heap.size w w' := by
  by_cases ds0 : len = 0
  · have hv : vgetf len x0 x1 x2 x3 = (0, 0, 3) := by unfold vgetf; rw [if_pos ds0]
    rw [hv]
    subst ds0
    refine (rget_s0 _ _ _).mono ?_
    rintro e w' ⟨rfl, hb⟩; exact ⟨rfl, hb⟩
  · skip
    by_cases do1 : x0 < 128
    · have hv : vgetf len x0 x1 x2 x3 = (x0, 1, 0) := by unfold vgetf; rw [if_neg ds0, if_pos do1]
      rw [hv]
      refine (rget_o1 b off len cap x0 w hlen (by omega) (hc0 (by omega)) (by omega) (by omega)).mono ?_
      rintro e w' ⟨rfl, hb⟩; exact ⟨rfl, hb⟩
    · skip
      by_cases ds1 : len = 1
      · have hv : vgetf len x0 x1 x2 x3 = (0, 0, 3) := by unfold vgetf; rw [if_neg ds0, if_neg do1, if_pos ds1]
        rw [hv]
        refine (rget_s1 b off len cap x0 w hlen (by omega) (hc0 (by omega)) r0 (by omega)).mono ?_
        rintro e w' ⟨rfl, hb⟩; exact ⟨rfl, hb⟩
      · skip
        by_cases dz2 : x1 = 0
        · have hv : vgetf len x0 x1 x2 x3 = (0, 0, 1) := by unfold vgetf; rw [if_neg ds0, if_neg do1, if_neg ds1, if_pos dz2]
          rw [hv]
          refine (rget_z2 b off len cap x0 x1 w hlen (by omega) (hc0 (by omega)) r0 (hc1 (by omega)) (by omega) (by assumption)).mono ?_
          rintro e w' ⟨rfl, hb⟩; exact ⟨rfl, hb⟩
        · skip
          by_cases do2 : x1 < 128
          · have hv : vgetf len x0 x1 x2 x3 = ((x0 - 128) + x1 * 128, 2, 0) := by unfold vgetf; rw [if_neg ds0, if_neg do1, if_neg ds1, if_neg dz2, if_pos do2]
            rw [hv]
            refine (rget_o2 b off len cap x0 x1 w hlen (by omega) (hc0 (by omega)) r0 (hc1 (by omega)) (by omega) (by omega) (by omega)).mono ?_
            rintro e w' ⟨rfl, hb⟩; exact ⟨rfl, hb⟩
          · skip
            by_cases ds2 : len = 2
            · have hv : vgetf len x0 x1 x2 x3 = (0, 0, 3) := by unfold vgetf; rw [if_neg ds0, if_neg do1, if_neg ds1, if_neg dz2, if_neg do2, if_pos ds2]
              rw [hv]
              refine (rget_s2 b off len cap x0 x1 w hlen (by omega) (hc0 (by omega)) r0 (hc1 (by omega)) r1 (by omega) (by omega)).mono ?_
              rintro e w' ⟨rfl, hb⟩; exact ⟨rfl, hb⟩
            · skip
              by_cases dz3 : x2 = 0
              · have hv : vgetf len x0 x1 x2 x3 = (0, 0, 1) := by unfold vgetf; rw [if_neg ds0, if_neg do1, if_neg ds1, if_neg dz2, if_neg do2, if_neg ds2, if_pos dz3]
                rw [hv]
                refine (rget_z3 b off len cap x0 x1 x2 w hlen (by omega) (hc0 (by omega)) r0 (hc1 (by omega)) r1 (hc2 (by omega)) (by omega) (by omega) (by assumption)).mono ?_
                rintro e w' ⟨rfl, hb⟩; exact ⟨rfl, hb⟩
              · skip
                by_cases do3 : x2 < 128
                · have hv : vgetf len x0 x1 x2 x3 = ((x0 - 128) + (x1 - 128) * 128 + x2 * 16384, 3, 0) := by unfold vgetf; rw [if_neg ds0, if_neg do1, if_neg ds1, if_neg dz2, if_neg do2, if_neg ds2, if_neg dz3, if_pos do3]
                  rw [hv]
                  refine (rget_o3 b off len cap x0 x1 x2 w hlen (by omega) (hc0 (by omega)) r0 (hc1 (by omega)) r1 (hc2 (by omega)) (by omega) (by omega) (by omega) (by omega)).mono ?_
                  rintro e w' ⟨rfl, hb⟩; exact ⟨rfl, hb⟩
                · skip
                  by_cases ds3 : len = 3
                  · have hv : vgetf len x0 x1 x2 x3 = (0, 0, 3) := by unfold vgetf; rw [if_neg ds0, if_neg do1, if_neg ds1, if_neg dz2, if_neg do2, if_neg ds2, if_neg dz3, if_neg do3, if_pos ds3]
                    rw [hv]
                    refine (rget_s3 b off len cap x0 x1 x2 w hlen (by omega) (hc0 (by omega)) r0 (hc1 (by omega)) r1 (hc2 (by omega)) r2 (by omega) (by omega) (by omega)).mono ?_
                    rintro e w' ⟨rfl, hb⟩; exact ⟨rfl, hb⟩
                  · skip
                    by_cases dz4 : x3 = 0
                    · have hv : vgetf len x0 x1 x2 x3 = (0, 0, 1) := by unfold vgetf; rw [if_neg ds0, if_neg do1, if_neg ds1, if_neg dz2, if_neg do2, if_neg ds2, if_neg dz3, if_neg do3, if_neg ds3, if_pos dz4]
                      rw [hv]
                      refine (rget_z4 b off len cap x0 x1 x2 x3 w hlen (by omega) (hc0 (by omega)) r0 (hc1 (by omega)) r1 (hc2 (by omega)) r2 (hc3 (by omega)) (by omega) (by omega) (by omega) (by assumption)).mono ?_
                      rintro e w' ⟨rfl, hb⟩; exact ⟨rfl, hb⟩
                    · skip
                      by_cases do4 : x3 < 128
                      · have hv : vgetf len x0 x1 x2 x3 = ((x0 - 128) + (x1 - 128) * 128 + (x2 - 128) * 16384 + x3 * 2097152, 4, 0) := by unfold vgetf; rw [if_neg ds0, if_neg do1, if_neg ds1, if_neg dz2, if_neg do2, if_neg ds2, if_neg dz3, if_neg do3, if_neg ds3, if_neg dz4, if_pos do4]
                        rw [hv]
                        refine (rget_o4 b off len cap x0 x1 x2 x3 w hlen (by omega) (hc0 (by omega)) r0 (hc1 (by omega)) r1 (hc2 (by omega)) r2 (hc3 (by omega)) (by omega) (by omega) (by omega) (by omega) (by omega)).mono ?_
                        rintro e w' ⟨rfl, hb⟩; exact ⟨rfl, hb⟩
                      · skip
                        have hv : vgetf len x0 x1 x2 x3 = (0, 0, 1) := by unfold vgetf; rw [if_neg ds0, if_neg do1, if_neg ds1, if_neg dz2, if_neg do2, if_neg ds2, if_neg dz3, if_neg do3, if_neg ds3, if_neg dz4, if_neg do4]
                        rw [hv]
                        refine (rget_l4 b off len cap x0 x1 x2 x3 w hlen (by omega) (hc0 (by omega)) r0 (hc1 (by omega)) r1 (hc2 (by omega)) r2 (hc3 (by omega)) r3 (by omega) (by omega) (by omega) (by omega)).mono ?_
                        rintro e w' ⟨rfl, hb⟩; exact ⟨rfl, hb⟩

theorem get_any (v : Value) (bs : List Int) (w : World) (h : Byt w v bs) :
    Calls Tryd.prog 34 #[v] w fun e w' => ∃ E, e = .returned (.tuple #[.int .i64 (vget bs).1, .int .i64 (vget bs).2.1, E]) ∧ ErrS w' E (vget bs).2.2 ∧ Below w.heap.size w w' := by
  obtain ⟨ao, cap, rfl, hlen, hr, hcase⟩ := h
  rcases hcase with rfl | ⟨b, off, rfl, hc⟩
  · rw [show vget [] = (0, 0, 3) from rfl]
    refine (get_s0 ao cap w).mono ?_
    rintro e w' ⟨rfl, rfl⟩; exact ⟨_, rfl, .inr ⟨by decide, _, rfl, by simp⟩, (Below.refl _ _).alloc (Nat.le_refl _) _⟩
  · exact get_at b off bs.length cap _ _ _ _ w (Nat.le_trans hlen.1 hlen.2) (hc 0) (hc 1) (hc 2) (hc 3) (hr 0) (hr 1) (hr 2) (hr 3)

theorem rget_any (v : Value) (bs : List Int) (w : World) (h : Byt w v bs) :
    Calls Tryd.prog 37 #[v] w fun e w' => e = .returned (.tuple #[.int .i64 (vget bs).1, .int .i64 (vget bs).2.1, .int .i64 (vget bs).2.2]) ∧ Below w.heap.size w w' := by
  obtain ⟨ao, cap, rfl, hlen, hr, hcase⟩ := h
  rcases hcase with rfl | ⟨b, off, rfl, hc⟩
  · rw [show vget [] = (0, 0, 3) from rfl]
    refine (rget_s0 ao cap w).mono ?_
    rintro e w' ⟨rfl, hb⟩; exact ⟨rfl, hb⟩
  · exact rget_at b off bs.length cap _ _ _ _ w (Nat.le_trans hlen.1 hlen.2) (hc 0) (hc 1) (hc 2) (hc 3) (hr 0) (hr 1) (hr 2) (hr 3)

end Go.Proofs.YtpfpollejhdbgaaDoor.V
/- Proved here: plain facts on numbers and bytes: what put tells is read back by vget, its beginnings are short, and what vget reads is what put tells. -/
namespace Go.Proofs.YtpfpollejhdbgaaDoor.V

theorem sz_mono (x y : Int) (h : x ≤ y) : sz x ≤ sz y := by
  unfold sz
  split <;> (try split) <;> (try split) <;> (try split) <;> (try split) <;> (try split) <;> omega
theorem sz_bounds (x : Int) : 1 ≤ sz x ∧ sz x ≤ 4 := by
  unfold sz
  split <;> (try split) <;> (try split) <;> omega

theorem vget_put (x : Int) (h0 : 0 ≤ x) (h1 : x ≤ 268435455) (l : List Int) : vget (put x ++ l) = (x, sz x, 0) := by
  by_cases a : x < 128
  · have hp : put x = [x] := by simp [put, a]
    rw [hp, sz1 x a]
    simp only [vget, List.cons_append, List.nil_append, List.length_cons, List.getD_cons_zero, List.getD_cons_succ]
    unfold vgetf
    rw [if_neg (by omega), if_pos a]
  · by_cases b : x < 16384
    · have hp : put x = [x % 128 + 128, x / 128] := by unfold put; rw [if_neg (by omega), if_pos (by omega)]
      rw [hp, sz2 x (by omega) b]
      simp only [vget, List.cons_append, List.nil_append, List.length_cons, List.getD_cons_zero, List.getD_cons_succ]
      unfold vgetf
      rw [if_neg (by omega), if_neg (by omega), if_neg (by omega), if_neg (by omega), if_pos (by omega)]
      rw [show x % 128 + 128 - 128 + x / 128 * 128 = x from by omega]
    · by_cases c : x < 2097152
      · have hp : put x = [x % 128 + 128, x / 128 % 128 + 128, x / 16384] := by unfold put; rw [if_neg (by omega), if_neg (by omega), if_pos (by omega)]
        rw [hp, sz3 x (by omega) c]
        simp only [vget, List.cons_append, List.nil_append, List.length_cons, List.getD_cons_zero, List.getD_cons_succ]
        unfold vgetf
        rw [if_neg (by omega), if_neg (by omega), if_neg (by omega), if_neg (by omega), if_neg (by omega), if_neg (by omega), if_neg (by omega), if_pos (by omega)]
        rw [show x % 128 + 128 - 128 + (x / 128 % 128 + 128 - 128) * 128 + x / 16384 * 16384 = x from by omega]
      · have hp : put x = [x % 128 + 128, x / 128 % 128 + 128, x / 16384 % 128 + 128, x / 2097152] := by unfold put; rw [if_neg (by omega), if_neg (by omega), if_neg (by omega)]
        rw [hp, sz4 x (by omega)]
        simp only [vget, List.cons_append, List.nil_append, List.length_cons, List.getD_cons_zero, List.getD_cons_succ]
        unfold vgetf
        rw [if_neg (by omega), if_neg (by omega), if_neg (by omega), if_neg (by omega), if_neg (by omega), if_neg (by omega), if_neg (by omega), if_neg (by omega), if_neg (by omega), if_neg (by omega), if_pos (by omega)]
        rw [show x % 128 + 128 - 128 + (x / 128 % 128 + 128 - 128) * 128 + (x / 16384 % 128 + 128 - 128) * 16384 + x / 2097152 * 2097152 = x from by omega]

theorem short0 : vget [] = (0, 0, 3) := rfl
theorem short1 (a : Int) (ha : 128 ≤ a) : vget [a] = (0, 0, 3) := by
  simp only [vget, List.length_cons, List.length_nil, List.getD_cons_zero, List.getD_cons_succ]
  unfold vgetf
  rw [if_neg (by omega), if_neg (by omega), if_pos (by omega)]
theorem short2 (a b : Int) (ha : 128 ≤ a) (hb : 128 ≤ b) : vget [a, b] = (0, 0, 3) := by
  simp only [vget, List.length_cons, List.length_nil, List.getD_cons_zero, List.getD_cons_succ]
  unfold vgetf
  rw [if_neg (by omega), if_neg (by omega), if_neg (by omega), if_neg (by omega), if_neg (by omega), if_pos (by omega)]
theorem short3 (a b c : Int) (ha : 128 ≤ a) (hb : 128 ≤ b) (hc : 128 ≤ c) : vget [a, b, c] = (0, 0, 3) := by
  simp only [vget, List.length_cons, List.length_nil, List.getD_cons_zero, List.getD_cons_succ]
  unfold vgetf
  rw [if_neg (by omega), if_neg (by omega), if_neg (by omega), if_neg (by omega), if_neg (by omega), if_neg (by omega), if_neg (by omega), if_neg (by omega), if_pos (by omega)]

theorem vget_short (x : Int) (j : Nat) (hj : j < (put x).length) : vget ((put x).take j) = (0, 0, 3) := by
  by_cases a : x < 128
  · have hp : put x = [x] := by simp [put, a]
    rw [hp] at hj ⊢
    rcases j with _ | j
    · rfl
    · simp at hj
  · by_cases b : x < 16384
    · have hp : put x = [x % 128 + 128, x / 128] := by unfold put; rw [if_neg (by omega), if_pos (by omega)]
      rw [hp] at hj ⊢
      rcases j with _ | _ | j
      · rfl
      · exact short1 _ (by omega)
      · simp at hj; omega
    · by_cases c : x < 2097152
      · have hp : put x = [x % 128 + 128, x / 128 % 128 + 128, x / 16384] := by unfold put; rw [if_neg (by omega), if_neg (by omega), if_pos (by omega)]
        rw [hp] at hj ⊢
        rcases j with _ | _ | _ | j
        · rfl
        · exact short1 _ (by omega)
        · exact short2 _ _ (by omega) (by omega)
        · simp at hj; omega
      · have hp : put x = [x % 128 + 128, x / 128 % 128 + 128, x / 16384 % 128 + 128, x / 2097152] := by unfold put; rw [if_neg (by omega), if_neg (by omega), if_neg (by omega)]
        rw [hp] at hj ⊢
        rcases j with _ | _ | _ | _ | j
        · rfl
        · exact short1 _ (by omega)
        · exact short2 _ _ (by omega) (by omega)
        · exact short3 _ _ _ (by omega) (by omega) (by omega)
        · simp at hj; omega

/-- what is read is told as just these bytes -/
def Told (l : List Int) (n k : Int) : Prop := 0 ≤ n ∧ n ≤ 268435455 ∧ ∃ K : Nat, k = K ∧ 1 ≤ K ∧ K ≤ l.length ∧ put n = l.take K

theorem vget_ok (l : List Int) (hr : ∀ j, 0 ≤ l.getD j 0 ∧ l.getD j 0 ≤ 255) (n k : Int) (h : vget l = (n, k, 0)) : Told l n k := by
  have r0 := hr 0
  have r1 := hr 1
  have r2 := hr 2
  have r3 := hr 3
  match l, r0, r1, r2, r3, h with
  | [], _, _, _, _, h => simp [short0] at h
  | [a], r0, _, _, _, h =>
    simp only [vget, List.length_cons, List.length_nil, List.getD_cons_zero, List.getD_cons_succ] at h r0
    unfold vgetf at h
    rw [if_neg (by omega)] at h
    by_cases d : a < 128
    · rw [if_pos d] at h
      simp only [Prod.mk.injEq] at h
      obtain ⟨rfl, rfl, _⟩ := h
      exact ⟨by omega, by omega, 1, rfl, by omega, by simp, by unfold put; rw [if_pos d]; rfl⟩
    · rw [if_neg d, if_pos (by omega)] at h
      simp at h
  | [a, b], r0, r1, _, _, h =>
    simp only [vget, List.length_cons, List.length_nil, List.getD_cons_zero, List.getD_cons_succ] at h r0 r1
    unfold vgetf at h
    rw [if_neg (by omega)] at h
    by_cases d : a < 128
    · rw [if_pos d] at h
      simp only [Prod.mk.injEq] at h
      obtain ⟨rfl, rfl, _⟩ := h
      exact ⟨by omega, by omega, 1, rfl, by omega, by simp, by unfold put; rw [if_pos d]; rfl⟩
    · rw [if_neg d, if_neg (by omega)] at h
      by_cases z : b = 0
      · rw [if_pos z] at h; simp at h
      · rw [if_neg z] at h
        by_cases d1 : b < 128
        · rw [if_pos d1] at h
          simp only [Prod.mk.injEq] at h
          obtain ⟨rfl, rfl, _⟩ := h
          exact ⟨by omega, by omega, 2, rfl, by omega, by simp, by
            unfold put; rw [if_neg (by omega), if_pos (by omega), show (a - 128 + b * 128) % 128 + 128 = a from by omega, show (a - 128 + b * 128) / 128 = b from by omega]; rfl⟩
        · rw [if_neg d1, if_pos (by omega)] at h
          simp at h
  | [a, b, c], r0, r1, r2, _, h =>
    simp only [vget, List.length_cons, List.length_nil, List.getD_cons_zero, List.getD_cons_succ] at h r0 r1 r2
    unfold vgetf at h
    rw [if_neg (by omega)] at h
    by_cases d : a < 128
    · rw [if_pos d] at h
      simp only [Prod.mk.injEq] at h
      obtain ⟨rfl, rfl, _⟩ := h
      exact ⟨by omega, by omega, 1, rfl, by omega, by simp, by unfold put; rw [if_pos d]; rfl⟩
    · rw [if_neg d, if_neg (by omega)] at h
      by_cases z : b = 0
      · rw [if_pos z] at h; simp at h
      · rw [if_neg z] at h
        by_cases d1 : b < 128
        · rw [if_pos d1] at h
          simp only [Prod.mk.injEq] at h
          obtain ⟨rfl, rfl, _⟩ := h
          exact ⟨by omega, by omega, 2, rfl, by omega, by simp, by
            unfold put; rw [if_neg (by omega), if_pos (by omega), show (a - 128 + b * 128) % 128 + 128 = a from by omega, show (a - 128 + b * 128) / 128 = b from by omega]; rfl⟩
        · rw [if_neg d1, if_neg (by omega)] at h
          by_cases z2 : c = 0
          · rw [if_pos z2] at h; simp at h
          · rw [if_neg z2] at h
            by_cases d2 : c < 128
            · rw [if_pos d2] at h
              simp only [Prod.mk.injEq] at h
              obtain ⟨rfl, rfl, _⟩ := h
              exact ⟨by omega, by omega, 3, rfl, by omega, by simp, by
                unfold put; rw [if_neg (by omega), if_neg (by omega), if_pos (by omega), show (a - 128 + (b - 128) * 128 + c * 16384) % 128 + 128 = a from by omega, show (a - 128 + (b - 128) * 128 + c * 16384) / 128 % 128 + 128 = b from by omega, show (a - 128 + (b - 128) * 128 + c * 16384) / 16384 = c from by omega]; rfl⟩
            · rw [if_neg d2, if_pos (by omega)] at h
              simp at h
  | a :: b :: c :: e :: r, r0, r1, r2, r3, h =>
    simp only [vget, List.length_cons, List.getD_cons_zero, List.getD_cons_succ] at h r0 r1 r2 r3
    unfold vgetf at h
    rw [if_neg (by omega)] at h
    by_cases d : a < 128
    · rw [if_pos d] at h
      simp only [Prod.mk.injEq] at h
      obtain ⟨rfl, rfl, _⟩ := h
      exact ⟨by omega, by omega, 1, rfl, by omega, by simp, by unfold put; rw [if_pos d]; rfl⟩
    · rw [if_neg d, if_neg (by omega)] at h
      by_cases z : b = 0
      · rw [if_pos z] at h; simp at h
      · rw [if_neg z] at h
        by_cases d1 : b < 128
        · rw [if_pos d1] at h
          simp only [Prod.mk.injEq] at h
          obtain ⟨rfl, rfl, _⟩ := h
          exact ⟨by omega, by omega, 2, rfl, by omega, by simp, by
            unfold put; rw [if_neg (by omega), if_pos (by omega), show (a - 128 + b * 128) % 128 + 128 = a from by omega, show (a - 128 + b * 128) / 128 = b from by omega]; rfl⟩
        · rw [if_neg d1, if_neg (by omega)] at h
          by_cases z2 : c = 0
          · rw [if_pos z2] at h; simp at h
          · rw [if_neg z2] at h
            by_cases d2 : c < 128
            · rw [if_pos d2] at h
              simp only [Prod.mk.injEq] at h
              obtain ⟨rfl, rfl, _⟩ := h
              exact ⟨by omega, by omega, 3, rfl, by omega, by simp, by
                unfold put; rw [if_neg (by omega), if_neg (by omega), if_pos (by omega), show (a - 128 + (b - 128) * 128 + c * 16384) % 128 + 128 = a from by omega, show (a - 128 + (b - 128) * 128 + c * 16384) / 128 % 128 + 128 = b from by omega, show (a - 128 + (b - 128) * 128 + c * 16384) / 16384 = c from by omega]; rfl⟩
            · rw [if_neg d2, if_neg (by omega)] at h
              by_cases z3 : e = 0
              · rw [if_pos z3] at h; simp at h
              · rw [if_neg z3] at h
                by_cases d3 : e < 128
                · rw [if_pos d3] at h
                  simp only [Prod.mk.injEq] at h
                  obtain ⟨rfl, rfl, _⟩ := h
                  exact ⟨by omega, by omega, 4, rfl, by omega, by simp, by
                    unfold put; rw [if_neg (by omega), if_neg (by omega), if_neg (by omega), show (a - 128 + (b - 128) * 128 + (c - 128) * 16384 + e * 2097152) % 128 + 128 = a from by omega, show (a - 128 + (b - 128) * 128 + (c - 128) * 16384 + e * 2097152) / 128 % 128 + 128 = b from by omega, show (a - 128 + (b - 128) * 128 + (c - 128) * 16384 + e * 2097152) / 16384 % 128 + 128 = c from by omega, show (a - 128 + (b - 128) * 128 + (c - 128) * 16384 + e * 2097152) / 2097152 = e from by omega]; rfl⟩
                · rw [if_neg d3] at h
                  simp at h
end Go.Proofs.YtpfpollejhdbgaaDoor.V
/- Proved here: prop's getPair and getValue read what a property of a shape has, or tell an error of below. Helper contracts. -/
namespace Go.Proofs.YtpfpollejhdbgaaDoor
open Go.RowKit
set_option maxRecDepth 100000

/-- what a call tells whose error is one of below -/
def Bad3 (w : World) (e : Ending) (w' : World) : Prop := ∃ a b x n, e = .returned (.tuple #[.int .i64 a, .int .i64 b, .iface 79 x]) ∧ Hid (Inn w' (.iface 79 x) n) ∧ Below w.heap.size w w'
theorem vget_good (v : Value) (l : List Int) (w : World) (h : Byt w v l) (n : Int) (K : Nat) (hv : V.vget l = (n, (K : Int), 0)) : Calls Tryd.prog 34 #[v] w fun e w' => e = .returned (.tuple #[.int .i64 n, .int .i64 K, .nilIface]) ∧ Below w.heap.size w w' := by
  refine (V.get_any v l w h).mono ?_
  rintro e w' ⟨E, rfl, hE, hb⟩
  rw [hv] at hE ⊢
  rcases hE with ⟨_, rfl⟩ | ⟨h0, _⟩
  · exact ⟨rfl, hb⟩
  · exact absurd rfl h0
theorem vget_fail (v : Value) (l : List Int) (w : World) (h : Byt w v l) (m : Int) (hv : (V.vget l).2.2 = m) (hm : m ≠ 0) : Calls Tryd.prog 34 #[v] w fun e w' => ∃ a b x, e = .returned (.tuple #[.int .i64 a, .int .i64 b, .iface 79 x]) ∧ Hid (Inn w' (.iface 79 x) m) ∧ Below w.heap.size w w' := by
  refine (V.get_any v l w h).mono ?_
  rintro e w' ⟨E, rfl, hE, hb⟩
  rw [hv] at hE
  rcases hE with ⟨h0, _⟩ | ⟨_, b, rfl, hc⟩
  · exact absurd h0 hm
  · exact ⟨_, _, _, rfl, .inr ⟨b, rfl, hc⟩, hb⟩
theorem fault_cell (n : Int) (w : World) : (faultW n w).cell? ⟨w.heap.size, 1, none⟩ = some (.iface 65 (.int .i64 n)) := by simp [faultW]
theorem gt_cases (l : List Int) : (∃ s K, full l = true ∧ utf (sb (gbs l)) = true ∧ s = gbs l ∧ K = 2 + nb l ∧ gt l = (s, (K : Int), 0)) ∨ (∃ m, m ≠ 0 ∧ gt l = (⟨#[]⟩, 0, m)) := by
  unfold gt
  by_cases hf : full l = true
  · rw [if_pos hf]
    by_cases hu : utf (sb (gbs l)) = true
    · rw [if_pos hu]; exact .inl ⟨_, _, hf, hu, rfl, rfl, rfl⟩
    · rw [if_neg hu]; exact .inr ⟨1, by decide, rfl⟩
  · rw [if_neg hf]; exact .inr ⟨3, by decide, rfl⟩
theorem tget_good (v : Value) (l : List Int) (w : World) (h : Byt w v l) (s : ByteArray) (K : Nat) (hv : gt l = (s, (K : Int), 0)) : Calls Tryd.prog 79 #[v] w fun e w' => e = .returned (.tuple #[.string s, .int .i64 K, .nilIface]) ∧ Below w.heap.size w w' := by
  rcases gt_cases l with ⟨s', K', hf, hu, rfl, rfl, hg⟩ | ⟨m, hm, hg⟩
  · rw [hg] at hv
    simp only [Prod.mk.injEq] at hv
    obtain ⟨rfl, hk, _⟩ := hv
    refine (get_ok v l w h hf hu).mono ?_
    rintro e w' ⟨rfl, q, rfl⟩
    exact ⟨by rw [hk], below_q q⟩
  · rw [hg] at hv
    simp only [Prod.mk.injEq] at hv
    exact absurd hv.2.2 hm
theorem tget_fail (v : Value) (l : List Int) (w : World) (h : Byt w v l) (m : Int) (hv : (gt l).2.2 = m) (hm : m ≠ 0) : Calls Tryd.prog 79 #[v] w fun e w' => ∃ s a x, e = .returned (.tuple #[.string s, .int .i64 a, .iface 79 x]) ∧ Hid (Inn w' (.iface 79 x) m) ∧ Below w.heap.size w w' := by
  unfold gt at hv
  by_cases hf : full l = true
  · rw [if_pos hf] at hv
    by_cases hu : utf (sb (gbs l)) = true
    · rw [if_pos hu] at hv; exact absurd hv.symm hm
    · rw [if_neg hu] at hv
      subst hv
      refine (get_form v l w h hf (by simpa using hu)).mono ?_
      rintro e w' ⟨rfl, q, rfl⟩
      exact ⟨_, _, _, rfl, .inr ⟨_, rfl, fault_cell _ _⟩, (below_q q).trans (fault_below 1 (w.drewN q))⟩
  · rw [if_neg hf] at hv
    subst hv
    refine (get_short v l w h (by simpa using hf)).mono ?_
    rintro e w' ⟨rfl, q, rfl⟩
    exact ⟨_, _, _, rfl, .inr ⟨_, rfl, fault_cell _ _⟩, (below_q q).trans (fault_below 3 (w.drewN q))⟩
theorem tbin_good (v : Value) (l : List Int) (w : World) (h : Byt w v l) (s : ByteArray) (K : Nat) (hv : gbn l = (s, (K : Int), 0)) : Calls Tryd.prog 80 #[v] w fun e w' => e = .returned (.tuple #[.string s, .int .i64 K, .nilIface]) ∧ Below w.heap.size w w' := by
  unfold gbn at hv
  by_cases hf : full l = true
  · rw [if_pos hf] at hv
    simp only [Prod.mk.injEq] at hv
    obtain ⟨rfl, hk, _⟩ := hv
    refine (gbin_ok v l w h hf).mono ?_
    rintro e w' ⟨rfl, q, rfl⟩
    exact ⟨by rw [hk], below_q q⟩
  · rw [if_neg hf] at hv
    simp at hv
theorem tbin_fail (v : Value) (l : List Int) (w : World) (h : Byt w v l) (m : Int) (hv : (gbn l).2.2 = m) (hm : m ≠ 0) : Calls Tryd.prog 80 #[v] w fun e w' => ∃ s a x, e = .returned (.tuple #[.string s, .int .i64 a, .iface 79 x]) ∧ Hid (Inn w' (.iface 79 x) m) ∧ Below w.heap.size w w' := by
  unfold gbn at hv
  by_cases hf : full l = true
  · rw [if_pos hf] at hv; exact absurd hv.symm hm
  · rw [if_neg hf] at hv
    subst hv
    refine (gbin_short v l w h (by simpa using hf)).mono ?_
    rintro e w' ⟨rfl, q, rfl⟩
    exact ⟨_, _, _, rfl, .inr ⟨_, rfl, fault_cell _ _⟩, (below_q q).trans (fault_below 3 (w.drewN q))⟩
theorem gnum_good (v : Value) (l : List Int) (w : World) (h : Byt w v l) (k : Int) (hk : k = 1 ∨ k = 2 ∨ k = 4) (hl : k ≤ l.length) : Calls Tryd.prog 78 #[v, .int .i64 k] w fun e w' => e = .returned (.tuple #[.int .i64 (be k l), .int .i64 k, .nilIface]) ∧ Below w.heap.size w w' := by
  obtain ⟨ao, cap, rfl, hlen, hr, hcase⟩ := h
  rcases hcase with rfl | ⟨b, off, rfl, hc⟩
  · simp at hl; omega
  · rcases hk with rfl | rfl | rfl
    · exact gnum_1 b off l.length cap _ w (by omega) hlen.1 hlen.2 (hc 0 (by omega)) (hr 0)
    · exact gnum_2 b off l.length cap _ _ w (by omega) hlen.1 hlen.2 (hc 0 (by omega)) (hc 1 (by omega)) (hr 0) (hr 1)
    · exact gnum_4 b off l.length cap _ _ _ _ w (by omega) hlen.1 hlen.2 (hc 0 (by omega)) (hc 1 (by omega)) (hc 2 (by omega)) (hc 3 (by omega)) (hr 0) (hr 1) (hr 2) (hr 3)
theorem gnum_fail (v : Value) (l : List Int) (w : World) (h : Byt w v l) (k : Int) (hl : (l.length : Int) < k) : Calls Tryd.prog 78 #[v, .int .i64 k] w fun e w' => e = .returned (.tuple #[.int .i64 0, .int .i64 0, .iface 65 (.int .i64 3)]) ∧ Below w.heap.size w w' := by
  obtain ⟨ao, cap, rfl, _⟩ := h
  refine (gnum_short ao _ cap k w hl).mono ?_
  rintro e w' ⟨rfl, rfl⟩
  exact ⟨rfl, Below.refl _ _⟩

def PairBad (w : World) (e : Ending) (w' : World) : Prop := ∃ s t a x n, e = .returned (.tuple #[.string s, .string t, .int .i64 a, .iface 79 x]) ∧ Hid (Inn w' (.iface 79 x) n) ∧ Below w.heap.size w w'
set_option maxHeartbeats 1000000 in
theorem gpair_ok (v : Value) (l : List Int) (w : World) (h : Byt w v l) (s t : ByteArray) (K M : Nat) (h1 : gt l = (s, (K : Int), 0)) (h2 : gt (l.drop K) = (t, (M : Int), 0)) (hK : 2 ≤ K ∧ K ≤ l.length) (hM : K + M ≤ l.length) :
    Calls Tryd.prog 81 #[v] w fun e w' => e = .returned (.tuple #[.string s, .string t, .int .i64 (K + M : Nat), .nilIface]) ∧ Below w.heap.size w w' := by
  obtain ⟨b, off, cap, rfl, hc1, hc2⟩ := h.form1 (by omega)
  unfold maxLen at hc2
  have HV := hide h
  have H1 := hide h1
  have H2 := hide h2
  clear h h1 h2
  generalize hn : l.length = n at hc1 hK hM HV
  go_enter Tryd.func81, Tryd.ntmps81
  go_wp2_with fail
  refine (tget_good _ l _ (unhide HV) s K (unhide H1)).mono ?_
  rintro e w1 ⟨rfl, hb1⟩
  have HD1 : Hid (cap = K → Byt w1 (.slice (some ⟨b, off, none⟩) (n - K) 0) (l.drop K)) := fun e => by
    have := ((unhide HV).below hb1).drop' K (by omega)
    rw [if_pos e, e, Nat.sub_self] at this; exact this
  have HD2 : Hid (¬ cap = K → Byt w1 (.slice (some ⟨b, off + K, none⟩) (n - K) (cap - K)) (l.drop K)) := fun e => by
    have := ((unhide HV).below hb1).drop' K (by omega)
    rw [if_neg e] at this; exact this
  have HB1 := hide hb1
  clear hb1
  go_wp2_with fail
  case inl h =>
    refine (tget_good _ _ _ ((unhide HD1) h) t M (unhide H2)).mono ?_
    rintro e w2 ⟨rfl, hb2⟩
    go_wp2
    go_returns
    exact ⟨by go_num, (unhide HB1).trans (hb2.mono (unhide HB1).size)⟩
  case inr h =>
    refine (tget_good _ _ _ ((unhide HD2) h) t M (unhide H2)).mono ?_
    rintro e w2 ⟨rfl, hb2⟩
    go_wp2
    go_returns
    exact ⟨by go_num, (unhide HB1).trans (hb2.mono (unhide HB1).size)⟩
theorem gpair_bad1 (v : Value) (l : List Int) (w : World) (h : Byt w v l) (m : Int) (h1 : (gt l).2.2 = m) (hm : m ≠ 0) : Calls Tryd.prog 81 #[v] w (PairBad w) := by
  obtain ⟨ao, cap, rfl, hc1, hc2⟩ := h.form
  have HV := hide h
  have H1 := hide h1
  clear h h1
  generalize hn : l.length = n at hc1 HV
  go_enter Tryd.func81, Tryd.ntmps81
  go_wp2_with fail
  refine (tget_fail _ l _ (unhide HV) m (unhide H1) hm).mono ?_
  rintro e w1 ⟨s, a, x, rfl, hi, hb1⟩
  go_wp2
  go_returns
  exact ⟨_, _, _, _, _, rfl, hi, hb1⟩
set_option maxHeartbeats 1000000 in
theorem gpair_bad2 (v : Value) (l : List Int) (w : World) (h : Byt w v l) (s : ByteArray) (K : Nat) (h1 : gt l = (s, (K : Int), 0)) (hK : 2 ≤ K ∧ K ≤ l.length) (m : Int) (h2 : (gt (l.drop K)).2.2 = m) (hm : m ≠ 0) : Calls Tryd.prog 81 #[v] w (PairBad w) := by
  obtain ⟨b, off, cap, rfl, hc1, hc2⟩ := h.form1 (by omega)
  unfold maxLen at hc2
  have HV := hide h
  have H1 := hide h1
  have H2 := hide h2
  clear h h1 h2
  generalize hn : l.length = n at hc1 hK HV
  go_enter Tryd.func81, Tryd.ntmps81
  go_wp2_with fail
  refine (tget_good _ l _ (unhide HV) s K (unhide H1)).mono ?_
  rintro e w1 ⟨rfl, hb1⟩
  have HD1 : Hid (cap = K → Byt w1 (.slice (some ⟨b, off, none⟩) (n - K) 0) (l.drop K)) := fun e => by
    have := ((unhide HV).below hb1).drop' K (by omega)
    rw [if_pos e, e, Nat.sub_self] at this; exact this
  have HD2 : Hid (¬ cap = K → Byt w1 (.slice (some ⟨b, off + K, none⟩) (n - K) (cap - K)) (l.drop K)) := fun e => by
    have := ((unhide HV).below hb1).drop' K (by omega)
    rw [if_neg e] at this; exact this
  have HB1 := hide hb1
  clear hb1
  go_wp2_with fail
  case inl h =>
    refine (tget_fail _ _ _ ((unhide HD1) h) m (unhide H2) hm).mono ?_
    rintro e w2 ⟨s, a, x, rfl, hi, hb2⟩
    go_wp2
    go_returns
    exact ⟨_, _, _, _, _, rfl, hi, (unhide HB1).trans (hb2.mono (unhide HB1).size)⟩
  case inr h =>
    refine (tget_fail _ _ _ ((unhide HD2) h) m (unhide H2) hm).mono ?_
    rintro e w2 ⟨s, a, x, rfl, hi, hb2⟩
    go_wp2
    go_returns
    exact ⟨_, _, _, _, _, rfl, hi, (unhide HB1).trans (hb2.mono (unhide HB1).size)⟩

theorem cell_set (w : World) (p q : Addr) (v : Value) (h : (w.cell? q).isSome = true) : (w.setCell p v).cell? q = if p = q then some v else w.cell? q := by
  by_cases e : p = q
  · subst e
    rw [if_pos rfl]
    exact World.cell?_setCell_same' w p v h
  · rw [if_neg e]
    exact World.cell?_setCell_other _ _ _ _ e
/-- a return of a property that lies in memory, a number, an error -/
theorem res_p {fn : Func} {a t u : Tmp} (h : fn.results = #[.cell a 49, .tmp t, .tmp u]) {tmps : Array Value} {w : World} {B : Nat} {v0 v1 v2 v3 : Value} (ha : tmps[a]?.getD undef = .pointer (some ⟨B, 0, none⟩)) (c0 : w.cell? ⟨B, 0, none⟩ = some v0) (c1 : w.cell? ⟨B, 1, none⟩ = some v1) (c2 : w.cell? ⟨B, 2, none⟩ = some v2) (c3 : w.cell? ⟨B, 3, none⟩ = some v3) :
    (results fn tmps).run Tryd.prog w = .ok (.tuple #[.agg #[v0, v1, v2, v3], tmps[t]?.getD undef, tmps[u]?.getD undef]) w := by
  simp [results, h, ha, go_sem, c0, c1, c2, c3]
/-- an error of below that does not lie in the block B -/
def InnOff (B : Nat) (w : World) (v : Value) (n : Int) : Prop := v = .iface 65 (.int .i64 n) ∨ ∃ b, b ≠ B ∧ v = .iface 79 (.pointer (some ⟨b, 0, none⟩)) ∧ w.cell? ⟨b, 1, none⟩ = some (.iface 65 (.int .i64 n))
theorem InnOff.inn {B : Nat} {w : World} {v : Value} {n : Int} (h : InnOff B w v n) : Inn w v n := by
  rcases h with h | ⟨b, _, h1, h2⟩
  · exact .inl h
  · exact .inr ⟨b, h1, h2⟩
theorem InnOff.set {B : Nat} {w : World} {v : Value} {n : Int} (h : InnOff B w v n) {p : Addr} {u : Value} (hp : p.block = B) : InnOff B (w.setCell p u) v n := by
  rcases h with h | ⟨b, h0, h1, h2⟩
  · exact .inl h
  · exact .inr ⟨b, h0, h1, by rw [World.cell?_setCell_far _ _ _ _ (by rw [hp]; exact Ne.symm h0)]; exact h2⟩
theorem Inn.off {B : Nat} {w : World} {v : Value} {n z : Int} (h : Inn w v n) (hB : w.cell? ⟨B, 1, none⟩ = some (.int .i64 z)) : InnOff B w v n := by
  rcases h with h | ⟨b, h1, h2⟩
  · exact .inl h
  · refine .inr ⟨b, ?_, h1, h2⟩
    rintro rfl
    rw [hB] at h2
    simp at h2
/-- a property but for its ID, and how many bytes -/
def GvOk (n : Int) (s t : ByteArray) (K : Int) (w : World) (e : Ending) (w' : World) : Prop := e = .returned (.tuple #[.agg #[.int .i64 0, .int .i64 n, .string s, .string t], .int .i64 K, .nilIface]) ∧ Below w.heap.size w w'
def GvBad (w : World) (e : Ending) (w' : World) : Prop := ∃ i n s t K ty x m, e = .returned (.tuple #[.agg #[.int .i64 i, .int .i64 n, .string s, .string t], .int .i64 K, .iface ty x]) ∧ Hid (Inn w' (.iface ty x) m) ∧ Below w.heap.size w w'
abbrev shp (f k lo hi : Int) : Value := .agg #[.int .i64 f, .int .i64 k, .int .i64 lo, .int .i64 hi]
set_option maxHeartbeats 1000000 in
theorem gval_num (v : Value) (l : List Int) (w : World) (h : Byt w v l) (k lo hi : Int) (hk : k = 1 ∨ k = 2 ∨ k = 4) (hl : k ≤ l.length) : Calls Tryd.prog 65 #[v, shp 1 k lo hi] w (GvOk (be k l) es es k w) := by
  obtain ⟨ao, cap, rfl, hc1, hc2⟩ := h.form
  have HV := hide h
  have Hhk := hide hk
  clear hk
  have Hhl := hide hl
  clear hl
  clear h
  generalize hn : l.length = n at hc1 HV
  go_enter Tryd.func65, Tryd.ntmps65
  go_wp2_with fail
  refine (gnum_good _ l _ ((unhide HV).below (by go_grown)) k (unhide Hhk) (unhide Hhl)).mono ?_
  rintro e w1 ⟨rfl, hb1⟩
  have HB1 : Hid (Below w.heap.size w w1) := (((Below.refl _ _).alloc (Nat.le_refl _) _).alloc (by simp) _).trans (hb1.mono (by simp; omega))
  have q0 : w1.cell? ⟨w.heap.size + 1, 0, none⟩ = some (.int .i64 0) := (hb1.cell (p := ⟨w.heap.size + 1, 0, none⟩) (by simp)).trans (by simp)
  have q1 : w1.cell? ⟨w.heap.size + 1, 1, none⟩ = some (.int .i64 0) := (hb1.cell (p := ⟨w.heap.size + 1, 1, none⟩) (by simp)).trans (by simp)
  have q2 : w1.cell? ⟨w.heap.size + 1, 2, none⟩ = some (.string ⟨#[]⟩) := (hb1.cell (p := ⟨w.heap.size + 1, 2, none⟩) (by simp)).trans (by simp)
  have q3 : w1.cell? ⟨w.heap.size + 1, 3, none⟩ = some (.string ⟨#[]⟩) := (hb1.cell (p := ⟨w.heap.size + 1, 3, none⟩) (by simp)).trans (by simp)
  have f0 : w1.frozen? ⟨w.heap.size + 1, 0, none⟩ = false := (hb1.frozen (p := ⟨w.heap.size + 1, 0, none⟩) (by simp)).trans (by simp)
  have f1 : w1.frozen? ⟨w.heap.size + 1, 1, none⟩ = false := (hb1.frozen (p := ⟨w.heap.size + 1, 1, none⟩) (by simp)).trans (by simp)
  have f2 : w1.frozen? ⟨w.heap.size + 1, 2, none⟩ = false := (hb1.frozen (p := ⟨w.heap.size + 1, 2, none⟩) (by simp)).trans (by simp)
  have f3 : w1.frozen? ⟨w.heap.size + 1, 3, none⟩ = false := (hb1.frozen (p := ⟨w.heap.size + 1, 3, none⟩) (by simp)).trans (by simp)
  clear hb1
  go_wp2
  (try simp only [Exit.inBlock, Exit.then])
  refine bodyPost_ret (res_p (B := w.heap.size + 1) (v0 := .int .i64 0) (v1 := .int .i64 (be k l)) (v2 := .string ⟨#[]⟩) (v3 := .string ⟨#[]⟩) rfl rfl ?c0 ?c1 ?c2 ?c3) rfl ?_
  case c0 => simp (maxDischargeDepth := 12) [cell_set, q0]
  case c1 => simp (maxDischargeDepth := 12) [cell_set, q1]
  case c2 => simp (maxDischargeDepth := 12) [cell_set, q2]
  case c3 => simp (maxDischargeDepth := 12) [cell_set, q3]
  exact ⟨rfl, by have := unhide HB1; go_grown⟩
set_option maxHeartbeats 1000000 in
theorem gval_num_bad (v : Value) (l : List Int) (w : World) (h : Byt w v l) (k lo hi : Int) (hl : (l.length : Int) < k) : Calls Tryd.prog 65 #[v, shp 1 k lo hi] w (GvBad w) := by
  obtain ⟨ao, cap, rfl, hc1, hc2⟩ := h.form
  have HV := hide h
  have Hhl := hide hl
  clear hl
  clear h
  generalize hn : l.length = n at hc1 HV
  go_enter Tryd.func65, Tryd.ntmps65
  go_wp2_with fail
  refine (gnum_fail _ l _ ((unhide HV).below (by go_grown)) k (unhide Hhl)).mono ?_
  rintro e w1 ⟨rfl, hb1⟩
  have HB1 : Hid (Below w.heap.size w w1) := (((Below.refl _ _).alloc (Nat.le_refl _) _).alloc (by simp) _).trans (hb1.mono (by simp; omega))
  have q0 : w1.cell? ⟨w.heap.size + 1, 0, none⟩ = some (.int .i64 0) := (hb1.cell (p := ⟨w.heap.size + 1, 0, none⟩) (by simp)).trans (by simp)
  have q1 : w1.cell? ⟨w.heap.size + 1, 1, none⟩ = some (.int .i64 0) := (hb1.cell (p := ⟨w.heap.size + 1, 1, none⟩) (by simp)).trans (by simp)
  have q2 : w1.cell? ⟨w.heap.size + 1, 2, none⟩ = some (.string ⟨#[]⟩) := (hb1.cell (p := ⟨w.heap.size + 1, 2, none⟩) (by simp)).trans (by simp)
  have q3 : w1.cell? ⟨w.heap.size + 1, 3, none⟩ = some (.string ⟨#[]⟩) := (hb1.cell (p := ⟨w.heap.size + 1, 3, none⟩) (by simp)).trans (by simp)
  have f0 : w1.frozen? ⟨w.heap.size + 1, 0, none⟩ = false := (hb1.frozen (p := ⟨w.heap.size + 1, 0, none⟩) (by simp)).trans (by simp)
  have f1 : w1.frozen? ⟨w.heap.size + 1, 1, none⟩ = false := (hb1.frozen (p := ⟨w.heap.size + 1, 1, none⟩) (by simp)).trans (by simp)
  have f2 : w1.frozen? ⟨w.heap.size + 1, 2, none⟩ = false := (hb1.frozen (p := ⟨w.heap.size + 1, 2, none⟩) (by simp)).trans (by simp)
  have f3 : w1.frozen? ⟨w.heap.size + 1, 3, none⟩ = false := (hb1.frozen (p := ⟨w.heap.size + 1, 3, none⟩) (by simp)).trans (by simp)
  clear hb1
  go_wp2
  (try simp only [Exit.inBlock, Exit.then])
  refine bodyPost_ret (res_p (B := w.heap.size + 1) (v0 := .int .i64 0) (v1 := .int .i64 (0)) (v2 := .string ⟨#[]⟩) (v3 := .string ⟨#[]⟩) rfl rfl ?c0 ?c1 ?c2 ?c3) rfl ?_
  case c0 => simp (maxDischargeDepth := 12) [cell_set, q0]
  case c1 => simp (maxDischargeDepth := 12) [cell_set, q1]
  case c2 => simp (maxDischargeDepth := 12) [cell_set, q2]
  case c3 => simp (maxDischargeDepth := 12) [cell_set, q3]
  exact ⟨_, _, _, _, _, _, _, _, rfl, .inl rfl, by have := unhide HB1; go_grown⟩
set_option maxHeartbeats 1000000 in
theorem gval_var (v : Value) (l : List Int) (w : World) (h : Byt w v l) (wd lo hi : Int) (N : Int) (K : Nat) (hg : V.vget l = (N, (K : Int), 0)) : Calls Tryd.prog 65 #[v, shp 2 wd lo hi] w (GvOk N es es K w) := by
  obtain ⟨ao, cap, rfl, hc1, hc2⟩ := h.form
  have HV := hide h
  have Hhg := hide hg
  clear hg
  clear h
  generalize hn : l.length = n at hc1 HV
  go_enter Tryd.func65, Tryd.ntmps65
  go_wp2_with fail
  refine (vget_good _ l _ ((unhide HV).below (by go_grown)) N K (unhide Hhg)).mono ?_
  rintro e w1 ⟨rfl, hb1⟩
  have HB1 : Hid (Below w.heap.size w w1) := (((Below.refl _ _).alloc (Nat.le_refl _) _).alloc (by simp) _).trans (hb1.mono (by simp; omega))
  have q0 : w1.cell? ⟨w.heap.size + 1, 0, none⟩ = some (.int .i64 0) := (hb1.cell (p := ⟨w.heap.size + 1, 0, none⟩) (by simp)).trans (by simp)
  have q1 : w1.cell? ⟨w.heap.size + 1, 1, none⟩ = some (.int .i64 0) := (hb1.cell (p := ⟨w.heap.size + 1, 1, none⟩) (by simp)).trans (by simp)
  have q2 : w1.cell? ⟨w.heap.size + 1, 2, none⟩ = some (.string ⟨#[]⟩) := (hb1.cell (p := ⟨w.heap.size + 1, 2, none⟩) (by simp)).trans (by simp)
  have q3 : w1.cell? ⟨w.heap.size + 1, 3, none⟩ = some (.string ⟨#[]⟩) := (hb1.cell (p := ⟨w.heap.size + 1, 3, none⟩) (by simp)).trans (by simp)
  have f0 : w1.frozen? ⟨w.heap.size + 1, 0, none⟩ = false := (hb1.frozen (p := ⟨w.heap.size + 1, 0, none⟩) (by simp)).trans (by simp)
  have f1 : w1.frozen? ⟨w.heap.size + 1, 1, none⟩ = false := (hb1.frozen (p := ⟨w.heap.size + 1, 1, none⟩) (by simp)).trans (by simp)
  have f2 : w1.frozen? ⟨w.heap.size + 1, 2, none⟩ = false := (hb1.frozen (p := ⟨w.heap.size + 1, 2, none⟩) (by simp)).trans (by simp)
  have f3 : w1.frozen? ⟨w.heap.size + 1, 3, none⟩ = false := (hb1.frozen (p := ⟨w.heap.size + 1, 3, none⟩) (by simp)).trans (by simp)
  clear hb1
  go_wp2
  (try simp only [Exit.inBlock, Exit.then])
  refine bodyPost_ret (res_p (B := w.heap.size + 1) (v0 := .int .i64 0) (v1 := .int .i64 (N)) (v2 := .string ⟨#[]⟩) (v3 := .string ⟨#[]⟩) rfl rfl ?c0 ?c1 ?c2 ?c3) rfl ?_
  case c0 => simp (maxDischargeDepth := 12) [cell_set, q0]
  case c1 => simp (maxDischargeDepth := 12) [cell_set, q1]
  case c2 => simp (maxDischargeDepth := 12) [cell_set, q2]
  case c3 => simp (maxDischargeDepth := 12) [cell_set, q3]
  exact ⟨rfl, by have := unhide HB1; go_grown⟩
set_option maxHeartbeats 1000000 in
theorem gval_var_bad (v : Value) (l : List Int) (w : World) (h : Byt w v l) (wd lo hi : Int) (m : Int) (hg : (V.vget l).2.2 = m) (hm : m ≠ 0) : Calls Tryd.prog 65 #[v, shp 2 wd lo hi] w (GvBad w) := by
  obtain ⟨ao, cap, rfl, hc1, hc2⟩ := h.form
  have HV := hide h
  have Hhg := hide hg
  clear hg
  clear h
  generalize hn : l.length = n at hc1 HV
  go_enter Tryd.func65, Tryd.ntmps65
  go_wp2_with fail
  refine (vget_fail _ l _ ((unhide HV).below (by go_grown)) m (unhide Hhg) hm).mono ?_
  rintro e w1 ⟨a, b, x, rfl, hi, hb1⟩
  have HB1 : Hid (Below w.heap.size w w1) := (((Below.refl _ _).alloc (Nat.le_refl _) _).alloc (by simp) _).trans (hb1.mono (by simp; omega))
  have q0 : w1.cell? ⟨w.heap.size + 1, 0, none⟩ = some (.int .i64 0) := (hb1.cell (p := ⟨w.heap.size + 1, 0, none⟩) (by simp)).trans (by simp)
  have q1 : w1.cell? ⟨w.heap.size + 1, 1, none⟩ = some (.int .i64 0) := (hb1.cell (p := ⟨w.heap.size + 1, 1, none⟩) (by simp)).trans (by simp)
  have q2 : w1.cell? ⟨w.heap.size + 1, 2, none⟩ = some (.string ⟨#[]⟩) := (hb1.cell (p := ⟨w.heap.size + 1, 2, none⟩) (by simp)).trans (by simp)
  have q3 : w1.cell? ⟨w.heap.size + 1, 3, none⟩ = some (.string ⟨#[]⟩) := (hb1.cell (p := ⟨w.heap.size + 1, 3, none⟩) (by simp)).trans (by simp)
  have f0 : w1.frozen? ⟨w.heap.size + 1, 0, none⟩ = false := (hb1.frozen (p := ⟨w.heap.size + 1, 0, none⟩) (by simp)).trans (by simp)
  have f1 : w1.frozen? ⟨w.heap.size + 1, 1, none⟩ = false := (hb1.frozen (p := ⟨w.heap.size + 1, 1, none⟩) (by simp)).trans (by simp)
  have f2 : w1.frozen? ⟨w.heap.size + 1, 2, none⟩ = false := (hb1.frozen (p := ⟨w.heap.size + 1, 2, none⟩) (by simp)).trans (by simp)
  have f3 : w1.frozen? ⟨w.heap.size + 1, 3, none⟩ = false := (hb1.frozen (p := ⟨w.heap.size + 1, 3, none⟩) (by simp)).trans (by simp)
  clear hb1
  have HOF := hide ((unhide hi).off q1)
  clear hi
  go_wp2
  (try simp only [Exit.inBlock, Exit.then])
  refine bodyPost_ret (res_p (B := w.heap.size + 1) (v0 := .int .i64 0) (v1 := .int .i64 (a)) (v2 := .string ⟨#[]⟩) (v3 := .string ⟨#[]⟩) rfl rfl ?c0 ?c1 ?c2 ?c3) rfl ?_
  case c0 => simp (maxDischargeDepth := 12) [cell_set, q0]
  case c1 => simp (maxDischargeDepth := 12) [cell_set, q1]
  case c2 => simp (maxDischargeDepth := 12) [cell_set, q2]
  case c3 => simp (maxDischargeDepth := 12) [cell_set, q3]
  refine ⟨_, _, _, _, _, _, _, m, rfl, InnOff.inn (B := w.heap.size + 1) ?_, ?_⟩
  · refine InnOff.set ?_ rfl; refine InnOff.set ?_ rfl; refine InnOff.set ?_ rfl; refine InnOff.set ?_ rfl; refine InnOff.set ?_ rfl; exact unhide HOF
  · have := unhide HB1; go_grown
set_option maxHeartbeats 1000000 in
theorem gval_text (v : Value) (l : List Int) (w : World) (h : Byt w v l) (wd lo hi : Int) (s : ByteArray) (K : Nat) (hg : gt l = (s, (K : Int), 0)) : Calls Tryd.prog 65 #[v, shp 3 wd lo hi] w (GvOk 0 s es K w) := by
  obtain ⟨ao, cap, rfl, hc1, hc2⟩ := h.form
  have HV := hide h
  have Hhg := hide hg
  clear hg
  clear h
  generalize hn : l.length = n at hc1 HV
  go_enter Tryd.func65, Tryd.ntmps65
  go_wp2_with fail
  refine (tget_good _ l _ ((unhide HV).below (by go_grown)) s K (unhide Hhg)).mono ?_
  rintro e w1 ⟨rfl, hb1⟩
  have HB1 : Hid (Below w.heap.size w w1) := (((Below.refl _ _).alloc (Nat.le_refl _) _).alloc (by simp) _).trans (hb1.mono (by simp; omega))
  have q0 : w1.cell? ⟨w.heap.size + 1, 0, none⟩ = some (.int .i64 0) := (hb1.cell (p := ⟨w.heap.size + 1, 0, none⟩) (by simp)).trans (by simp)
  have q1 : w1.cell? ⟨w.heap.size + 1, 1, none⟩ = some (.int .i64 0) := (hb1.cell (p := ⟨w.heap.size + 1, 1, none⟩) (by simp)).trans (by simp)
  have q2 : w1.cell? ⟨w.heap.size + 1, 2, none⟩ = some (.string ⟨#[]⟩) := (hb1.cell (p := ⟨w.heap.size + 1, 2, none⟩) (by simp)).trans (by simp)
  have q3 : w1.cell? ⟨w.heap.size + 1, 3, none⟩ = some (.string ⟨#[]⟩) := (hb1.cell (p := ⟨w.heap.size + 1, 3, none⟩) (by simp)).trans (by simp)
  have f0 : w1.frozen? ⟨w.heap.size + 1, 0, none⟩ = false := (hb1.frozen (p := ⟨w.heap.size + 1, 0, none⟩) (by simp)).trans (by simp)
  have f1 : w1.frozen? ⟨w.heap.size + 1, 1, none⟩ = false := (hb1.frozen (p := ⟨w.heap.size + 1, 1, none⟩) (by simp)).trans (by simp)
  have f2 : w1.frozen? ⟨w.heap.size + 1, 2, none⟩ = false := (hb1.frozen (p := ⟨w.heap.size + 1, 2, none⟩) (by simp)).trans (by simp)
  have f3 : w1.frozen? ⟨w.heap.size + 1, 3, none⟩ = false := (hb1.frozen (p := ⟨w.heap.size + 1, 3, none⟩) (by simp)).trans (by simp)
  clear hb1
  go_wp2
  (try simp only [Exit.inBlock, Exit.then])
  refine bodyPost_ret (res_p (B := w.heap.size + 1) (v0 := .int .i64 0) (v1 := .int .i64 (0)) (v2 := .string s) (v3 := .string ⟨#[]⟩) rfl rfl ?c0 ?c1 ?c2 ?c3) rfl ?_
  case c0 => simp (maxDischargeDepth := 12) [cell_set, q0]
  case c1 => simp (maxDischargeDepth := 12) [cell_set, q1]
  case c2 => simp (maxDischargeDepth := 12) [cell_set, q2]
  case c3 => simp (maxDischargeDepth := 12) [cell_set, q3]
  exact ⟨rfl, by have := unhide HB1; go_grown⟩
set_option maxHeartbeats 1000000 in
theorem gval_text_bad (v : Value) (l : List Int) (w : World) (h : Byt w v l) (wd lo hi : Int) (m : Int) (hg : (gt l).2.2 = m) (hm : m ≠ 0) : Calls Tryd.prog 65 #[v, shp 3 wd lo hi] w (GvBad w) := by
  obtain ⟨ao, cap, rfl, hc1, hc2⟩ := h.form
  have HV := hide h
  have Hhg := hide hg
  clear hg
  clear h
  generalize hn : l.length = n at hc1 HV
  go_enter Tryd.func65, Tryd.ntmps65
  go_wp2_with fail
  refine (tget_fail _ l _ ((unhide HV).below (by go_grown)) m (unhide Hhg) hm).mono ?_
  rintro e w1 ⟨s, a, x, rfl, hi, hb1⟩
  have HB1 : Hid (Below w.heap.size w w1) := (((Below.refl _ _).alloc (Nat.le_refl _) _).alloc (by simp) _).trans (hb1.mono (by simp; omega))
  have q0 : w1.cell? ⟨w.heap.size + 1, 0, none⟩ = some (.int .i64 0) := (hb1.cell (p := ⟨w.heap.size + 1, 0, none⟩) (by simp)).trans (by simp)
  have q1 : w1.cell? ⟨w.heap.size + 1, 1, none⟩ = some (.int .i64 0) := (hb1.cell (p := ⟨w.heap.size + 1, 1, none⟩) (by simp)).trans (by simp)
  have q2 : w1.cell? ⟨w.heap.size + 1, 2, none⟩ = some (.string ⟨#[]⟩) := (hb1.cell (p := ⟨w.heap.size + 1, 2, none⟩) (by simp)).trans (by simp)
  have q3 : w1.cell? ⟨w.heap.size + 1, 3, none⟩ = some (.string ⟨#[]⟩) := (hb1.cell (p := ⟨w.heap.size + 1, 3, none⟩) (by simp)).trans (by simp)
  have f0 : w1.frozen? ⟨w.heap.size + 1, 0, none⟩ = false := (hb1.frozen (p := ⟨w.heap.size + 1, 0, none⟩) (by simp)).trans (by simp)
  have f1 : w1.frozen? ⟨w.heap.size + 1, 1, none⟩ = false := (hb1.frozen (p := ⟨w.heap.size + 1, 1, none⟩) (by simp)).trans (by simp)
  have f2 : w1.frozen? ⟨w.heap.size + 1, 2, none⟩ = false := (hb1.frozen (p := ⟨w.heap.size + 1, 2, none⟩) (by simp)).trans (by simp)
  have f3 : w1.frozen? ⟨w.heap.size + 1, 3, none⟩ = false := (hb1.frozen (p := ⟨w.heap.size + 1, 3, none⟩) (by simp)).trans (by simp)
  clear hb1
  have HOF := hide ((unhide hi).off q1)
  clear hi
  go_wp2
  (try simp only [Exit.inBlock, Exit.then])
  refine bodyPost_ret (res_p (B := w.heap.size + 1) (v0 := .int .i64 0) (v1 := .int .i64 (0)) (v2 := .string s) (v3 := .string ⟨#[]⟩) rfl rfl ?c0 ?c1 ?c2 ?c3) rfl ?_
  case c0 => simp (maxDischargeDepth := 12) [cell_set, q0]
  case c1 => simp (maxDischargeDepth := 12) [cell_set, q1]
  case c2 => simp (maxDischargeDepth := 12) [cell_set, q2]
  case c3 => simp (maxDischargeDepth := 12) [cell_set, q3]
  refine ⟨_, _, _, _, _, _, _, m, rfl, InnOff.inn (B := w.heap.size + 1) ?_, ?_⟩
  · refine InnOff.set ?_ rfl; refine InnOff.set ?_ rfl; refine InnOff.set ?_ rfl; refine InnOff.set ?_ rfl; refine InnOff.set ?_ rfl; exact unhide HOF
  · have := unhide HB1; go_grown
set_option maxHeartbeats 1000000 in
theorem gval_bin (v : Value) (l : List Int) (w : World) (h : Byt w v l) (wd lo hi : Int) (s : ByteArray) (K : Nat) (hg : gbn l = (s, (K : Int), 0)) : Calls Tryd.prog 65 #[v, shp 4 wd lo hi] w (GvOk 0 s es K w) := by
  obtain ⟨ao, cap, rfl, hc1, hc2⟩ := h.form
  have HV := hide h
  have Hhg := hide hg
  clear hg
  clear h
  generalize hn : l.length = n at hc1 HV
  go_enter Tryd.func65, Tryd.ntmps65
  go_wp2_with fail
  refine (tbin_good _ l _ ((unhide HV).below (by go_grown)) s K (unhide Hhg)).mono ?_
  rintro e w1 ⟨rfl, hb1⟩
  have HB1 : Hid (Below w.heap.size w w1) := (((Below.refl _ _).alloc (Nat.le_refl _) _).alloc (by simp) _).trans (hb1.mono (by simp; omega))
  have q0 : w1.cell? ⟨w.heap.size + 1, 0, none⟩ = some (.int .i64 0) := (hb1.cell (p := ⟨w.heap.size + 1, 0, none⟩) (by simp)).trans (by simp)
  have q1 : w1.cell? ⟨w.heap.size + 1, 1, none⟩ = some (.int .i64 0) := (hb1.cell (p := ⟨w.heap.size + 1, 1, none⟩) (by simp)).trans (by simp)
  have q2 : w1.cell? ⟨w.heap.size + 1, 2, none⟩ = some (.string ⟨#[]⟩) := (hb1.cell (p := ⟨w.heap.size + 1, 2, none⟩) (by simp)).trans (by simp)
  have q3 : w1.cell? ⟨w.heap.size + 1, 3, none⟩ = some (.string ⟨#[]⟩) := (hb1.cell (p := ⟨w.heap.size + 1, 3, none⟩) (by simp)).trans (by simp)
  have f0 : w1.frozen? ⟨w.heap.size + 1, 0, none⟩ = false := (hb1.frozen (p := ⟨w.heap.size + 1, 0, none⟩) (by simp)).trans (by simp)
  have f1 : w1.frozen? ⟨w.heap.size + 1, 1, none⟩ = false := (hb1.frozen (p := ⟨w.heap.size + 1, 1, none⟩) (by simp)).trans (by simp)
  have f2 : w1.frozen? ⟨w.heap.size + 1, 2, none⟩ = false := (hb1.frozen (p := ⟨w.heap.size + 1, 2, none⟩) (by simp)).trans (by simp)
  have f3 : w1.frozen? ⟨w.heap.size + 1, 3, none⟩ = false := (hb1.frozen (p := ⟨w.heap.size + 1, 3, none⟩) (by simp)).trans (by simp)
  clear hb1
  go_wp2
  (try simp only [Exit.inBlock, Exit.then])
  refine bodyPost_ret (res_p (B := w.heap.size + 1) (v0 := .int .i64 0) (v1 := .int .i64 (0)) (v2 := .string s) (v3 := .string ⟨#[]⟩) rfl rfl ?c0 ?c1 ?c2 ?c3) rfl ?_
  case c0 => simp (maxDischargeDepth := 12) [cell_set, q0]
  case c1 => simp (maxDischargeDepth := 12) [cell_set, q1]
  case c2 => simp (maxDischargeDepth := 12) [cell_set, q2]
  case c3 => simp (maxDischargeDepth := 12) [cell_set, q3]
  exact ⟨rfl, by have := unhide HB1; go_grown⟩
set_option maxHeartbeats 1000000 in
theorem gval_bin_bad (v : Value) (l : List Int) (w : World) (h : Byt w v l) (wd lo hi : Int) (m : Int) (hg : (gbn l).2.2 = m) (hm : m ≠ 0) : Calls Tryd.prog 65 #[v, shp 4 wd lo hi] w (GvBad w) := by
  obtain ⟨ao, cap, rfl, hc1, hc2⟩ := h.form
  have HV := hide h
  have Hhg := hide hg
  clear hg
  clear h
  generalize hn : l.length = n at hc1 HV
  go_enter Tryd.func65, Tryd.ntmps65
  go_wp2_with fail
  refine (tbin_fail _ l _ ((unhide HV).below (by go_grown)) m (unhide Hhg) hm).mono ?_
  rintro e w1 ⟨s, a, x, rfl, hi, hb1⟩
  have HB1 : Hid (Below w.heap.size w w1) := (((Below.refl _ _).alloc (Nat.le_refl _) _).alloc (by simp) _).trans (hb1.mono (by simp; omega))
  have q0 : w1.cell? ⟨w.heap.size + 1, 0, none⟩ = some (.int .i64 0) := (hb1.cell (p := ⟨w.heap.size + 1, 0, none⟩) (by simp)).trans (by simp)
  have q1 : w1.cell? ⟨w.heap.size + 1, 1, none⟩ = some (.int .i64 0) := (hb1.cell (p := ⟨w.heap.size + 1, 1, none⟩) (by simp)).trans (by simp)
  have q2 : w1.cell? ⟨w.heap.size + 1, 2, none⟩ = some (.string ⟨#[]⟩) := (hb1.cell (p := ⟨w.heap.size + 1, 2, none⟩) (by simp)).trans (by simp)
  have q3 : w1.cell? ⟨w.heap.size + 1, 3, none⟩ = some (.string ⟨#[]⟩) := (hb1.cell (p := ⟨w.heap.size + 1, 3, none⟩) (by simp)).trans (by simp)
  have f0 : w1.frozen? ⟨w.heap.size + 1, 0, none⟩ = false := (hb1.frozen (p := ⟨w.heap.size + 1, 0, none⟩) (by simp)).trans (by simp)
  have f1 : w1.frozen? ⟨w.heap.size + 1, 1, none⟩ = false := (hb1.frozen (p := ⟨w.heap.size + 1, 1, none⟩) (by simp)).trans (by simp)
  have f2 : w1.frozen? ⟨w.heap.size + 1, 2, none⟩ = false := (hb1.frozen (p := ⟨w.heap.size + 1, 2, none⟩) (by simp)).trans (by simp)
  have f3 : w1.frozen? ⟨w.heap.size + 1, 3, none⟩ = false := (hb1.frozen (p := ⟨w.heap.size + 1, 3, none⟩) (by simp)).trans (by simp)
  clear hb1
  have HOF := hide ((unhide hi).off q1)
  clear hi
  go_wp2
  (try simp only [Exit.inBlock, Exit.then])
  refine bodyPost_ret (res_p (B := w.heap.size + 1) (v0 := .int .i64 0) (v1 := .int .i64 (0)) (v2 := .string s) (v3 := .string ⟨#[]⟩) rfl rfl ?c0 ?c1 ?c2 ?c3) rfl ?_
  case c0 => simp (maxDischargeDepth := 12) [cell_set, q0]
  case c1 => simp (maxDischargeDepth := 12) [cell_set, q1]
  case c2 => simp (maxDischargeDepth := 12) [cell_set, q2]
  case c3 => simp (maxDischargeDepth := 12) [cell_set, q3]
  refine ⟨_, _, _, _, _, _, _, m, rfl, InnOff.inn (B := w.heap.size + 1) ?_, ?_⟩
  · refine InnOff.set ?_ rfl; refine InnOff.set ?_ rfl; refine InnOff.set ?_ rfl; refine InnOff.set ?_ rfl; refine InnOff.set ?_ rfl; exact unhide HOF
  · have := unhide HB1; go_grown
set_option maxHeartbeats 1000000 in
theorem gval_pair (v : Value) (l : List Int) (w : World) (h : Byt w v l) (wd lo hi : Int) (s t : ByteArray) (K M : Nat) (h1 : gt l = (s, (K : Int), 0)) (h2 : gt (l.drop K) = (t, (M : Int), 0)) (hK : 2 ≤ K ∧ K ≤ l.length) (hM : K + M ≤ l.length) : Calls Tryd.prog 65 #[v, shp 5 wd lo hi] w (GvOk 0 s t (K + M : Nat) w) := by
  obtain ⟨ao, cap, rfl, hc1, hc2⟩ := h.form
  have HV := hide h
  have Hh1 := hide h1
  clear h1
  have Hh2 := hide h2
  clear h2
  have HhK := hide hK
  clear hK
  have HhM := hide hM
  clear hM
  clear h
  generalize hn : l.length = n at hc1 HV
  go_enter Tryd.func65, Tryd.ntmps65
  go_wp2_with fail
  refine (gpair_ok _ l _ ((unhide HV).below (by go_grown)) s t K M (unhide Hh1) (unhide Hh2) (unhide HhK) (unhide HhM)).mono ?_
  rintro e w1 ⟨rfl, hb1⟩
  have HB1 : Hid (Below w.heap.size w w1) := (((Below.refl _ _).alloc (Nat.le_refl _) _).alloc (by simp) _).trans (hb1.mono (by simp; omega))
  have q0 : w1.cell? ⟨w.heap.size + 1, 0, none⟩ = some (.int .i64 0) := (hb1.cell (p := ⟨w.heap.size + 1, 0, none⟩) (by simp)).trans (by simp)
  have q1 : w1.cell? ⟨w.heap.size + 1, 1, none⟩ = some (.int .i64 0) := (hb1.cell (p := ⟨w.heap.size + 1, 1, none⟩) (by simp)).trans (by simp)
  have q2 : w1.cell? ⟨w.heap.size + 1, 2, none⟩ = some (.string ⟨#[]⟩) := (hb1.cell (p := ⟨w.heap.size + 1, 2, none⟩) (by simp)).trans (by simp)
  have q3 : w1.cell? ⟨w.heap.size + 1, 3, none⟩ = some (.string ⟨#[]⟩) := (hb1.cell (p := ⟨w.heap.size + 1, 3, none⟩) (by simp)).trans (by simp)
  have f0 : w1.frozen? ⟨w.heap.size + 1, 0, none⟩ = false := (hb1.frozen (p := ⟨w.heap.size + 1, 0, none⟩) (by simp)).trans (by simp)
  have f1 : w1.frozen? ⟨w.heap.size + 1, 1, none⟩ = false := (hb1.frozen (p := ⟨w.heap.size + 1, 1, none⟩) (by simp)).trans (by simp)
  have f2 : w1.frozen? ⟨w.heap.size + 1, 2, none⟩ = false := (hb1.frozen (p := ⟨w.heap.size + 1, 2, none⟩) (by simp)).trans (by simp)
  have f3 : w1.frozen? ⟨w.heap.size + 1, 3, none⟩ = false := (hb1.frozen (p := ⟨w.heap.size + 1, 3, none⟩) (by simp)).trans (by simp)
  clear hb1
  go_wp2
  (try simp only [Exit.inBlock, Exit.then])
  refine bodyPost_ret (res_p (B := w.heap.size + 1) (v0 := .int .i64 0) (v1 := .int .i64 (0)) (v2 := .string s) (v3 := .string t) rfl rfl ?c0 ?c1 ?c2 ?c3) rfl ?_
  case c0 => simp (maxDischargeDepth := 12) [cell_set, q0]
  case c1 => simp (maxDischargeDepth := 12) [cell_set, q1]
  case c2 => simp (maxDischargeDepth := 12) [cell_set, q2]
  case c3 => simp (maxDischargeDepth := 12) [cell_set, q3]
  exact ⟨rfl, by have := unhide HB1; go_grown⟩
set_option maxHeartbeats 1000000 in
theorem gval_pair_bad (v : Value) (l : List Int) (w : World) (h : Byt w v l) (wd lo hi : Int) (hp : ∀ W, Byt W v l → Calls Tryd.prog 81 #[v] W (PairBad W)) : Calls Tryd.prog 65 #[v, shp 5 wd lo hi] w (GvBad w) := by
  obtain ⟨ao, cap, rfl, hc1, hc2⟩ := h.form
  have Hhp := hide hp
  clear hp
  have HV := hide h
  clear h
  generalize hn : l.length = n at hc1 HV Hhp
  go_enter Tryd.func65, Tryd.ntmps65
  go_wp2_with fail
  refine ((unhide Hhp) _ ((unhide HV).below (by go_grown))).mono ?_
  rintro e w1 ⟨s, t, a, x, m, rfl, hi, hb1⟩
  have HB1 : Hid (Below w.heap.size w w1) := (((Below.refl _ _).alloc (Nat.le_refl _) _).alloc (by simp) _).trans (hb1.mono (by simp; omega))
  have q0 : w1.cell? ⟨w.heap.size + 1, 0, none⟩ = some (.int .i64 0) := (hb1.cell (p := ⟨w.heap.size + 1, 0, none⟩) (by simp)).trans (by simp)
  have q1 : w1.cell? ⟨w.heap.size + 1, 1, none⟩ = some (.int .i64 0) := (hb1.cell (p := ⟨w.heap.size + 1, 1, none⟩) (by simp)).trans (by simp)
  have q2 : w1.cell? ⟨w.heap.size + 1, 2, none⟩ = some (.string ⟨#[]⟩) := (hb1.cell (p := ⟨w.heap.size + 1, 2, none⟩) (by simp)).trans (by simp)
  have q3 : w1.cell? ⟨w.heap.size + 1, 3, none⟩ = some (.string ⟨#[]⟩) := (hb1.cell (p := ⟨w.heap.size + 1, 3, none⟩) (by simp)).trans (by simp)
  have f0 : w1.frozen? ⟨w.heap.size + 1, 0, none⟩ = false := (hb1.frozen (p := ⟨w.heap.size + 1, 0, none⟩) (by simp)).trans (by simp)
  have f1 : w1.frozen? ⟨w.heap.size + 1, 1, none⟩ = false := (hb1.frozen (p := ⟨w.heap.size + 1, 1, none⟩) (by simp)).trans (by simp)
  have f2 : w1.frozen? ⟨w.heap.size + 1, 2, none⟩ = false := (hb1.frozen (p := ⟨w.heap.size + 1, 2, none⟩) (by simp)).trans (by simp)
  have f3 : w1.frozen? ⟨w.heap.size + 1, 3, none⟩ = false := (hb1.frozen (p := ⟨w.heap.size + 1, 3, none⟩) (by simp)).trans (by simp)
  clear hb1
  have HOF := hide ((unhide hi).off q1)
  clear hi
  go_wp2
  (try simp only [Exit.inBlock, Exit.then])
  refine bodyPost_ret (res_p (B := w.heap.size + 1) (v0 := .int .i64 0) (v1 := .int .i64 (0)) (v2 := .string s) (v3 := .string t) rfl rfl ?c0 ?c1 ?c2 ?c3) rfl ?_
  case c0 => simp (maxDischargeDepth := 12) [cell_set, q0]
  case c1 => simp (maxDischargeDepth := 12) [cell_set, q1]
  case c2 => simp (maxDischargeDepth := 12) [cell_set, q2]
  case c3 => simp (maxDischargeDepth := 12) [cell_set, q3]
  refine ⟨_, _, _, _, _, _, _, m, rfl, InnOff.inn (B := w.heap.size + 1) ?_, ?_⟩
  · refine InnOff.set ?_ rfl; refine InnOff.set ?_ rfl; refine InnOff.set ?_ rfl; refine InnOff.set ?_ rfl; refine InnOff.set ?_ rfl; refine InnOff.set ?_ rfl; exact unhide HOF
  · have := unhide HB1; go_grown
theorem gval_none (v : Value) (l : List Int) (w : World) (h : Byt w v l) (wd lo hi : Int) : Calls Tryd.prog 65 #[v, shp 0 wd lo hi] w (GvBad w) := by
  obtain ⟨ao, cap, rfl, hc1, hc2⟩ := h.form
  have HV := hide h
  clear h
  generalize hn : l.length = n at hc1 HV
  go_enter Tryd.func65, Tryd.ntmps65
  go_wp2
  go_returns
  exact ⟨_, _, _, _, _, _, _, _, rfl, .inl rfl, by go_grown⟩
end Go.Proofs.YtpfpollejhdbgaaDoor
