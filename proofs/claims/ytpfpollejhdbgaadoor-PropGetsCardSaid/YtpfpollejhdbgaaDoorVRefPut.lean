/- Proved here: dovecoteref1.Put tells the same bytes as varint.Put, in memory of its own. Helper contract. -/
import Derived.Test.YtpfpollejhdbgaaDoorVPut
namespace Go.Proofs.YtpfpollejhdbgaaDoor.V
open Go.RowKit
set_option maxRecDepth 100000

theorem Tryd.infoU8 : (Tryd.prog.info? 5).map (fun i => (i.zero, i.size, i.bytes)) = some (some (.int .u8 0), 1, 1) := by kernel_rfl

theorem put_step (m : Int) (h0 : 128 ≤ m) (h1 : m ≤ 268435455) : put m = (m % 128 + 128) :: put (m / 128) := by
  unfold put
  rw [if_neg (show ¬ m < 128 by omega)]
  by_cases b : m < 16384
  · rw [if_pos b, if_pos (show m / 128 < 128 by omega)]
  · rw [if_neg b, if_neg (show ¬ m / 128 < 128 by omega)]
    by_cases c : m < 2097152
    · rw [if_pos c, if_pos (show m / 128 < 16384 by omega), show m / 128 / 128 = m / 16384 by omega]
    · rw [if_neg c, if_neg (show ¬ m / 128 < 16384 by omega), if_pos (show m / 128 < 2097152 by omega), show m / 128 / 128 = m / 16384 by omega, show m / 128 / 16384 = m / 2097152 by omega]

set_option maxHeartbeats 1000000 in
theorem rput_any (n : Int) (w : World) (h0 : 0 ≤ n) (h1 : n ≤ 268435455) :
    Calls Tryd.prog 28 #[.int .i64 n] w fun e w' => ∃ v, e = .returned v ∧ w'.ownsRow w.heap.size 5 1 v (put n).length ((put n).map (Value.int .u8)) ∧ Below w.heap.size w w' := by
  obtain ⟨i0, hi, hz0, hz1, hz2⟩ := info_parts Tryd.infoU8
  go_enter Tryd.func28, Tryd.ntmps28
  go_wp2
  go_loopw [0, 3] (fun t b wr => ∃ (m : Int) (l : List Int), 0 ≤ m ∧ m ≤ 268435455 ∧ t = .int .i64 m ∧ Hid (l ++ put m = put n) ∧ wr.ownsRow w.heap.size 5 1 b l.length (l.map (Value.int .u8)) ∧ Below w.heap.size w wr) (fun t _ _ => (intOf t).toNat)
  case atStart => exact ⟨n, [], h0, h1, rfl, rfl, World.ownsRow_nil _ _ _ _, Below.refl _ _⟩
  case round =>
    obtain ⟨m, l, hm0, hm1, rfl, hl, hown, hbel⟩ := hrel
    by_cases hlt : 128 ≤ m
    · have hx : bits .or .u8 (m % 128) 128 = m % 128 + 128 := by rw [more_of' _ (by omega) (by omega)]; omega
      have hput := hide (put_step m hlt hm1)
      have hlen := put_len n
      have hll : l.length ≤ 4 := by
        have := congrArg List.length (unhide hl); rw [List.length_append] at this; omega
      go_wp2_with (first
        | (at_builtin; refine wpList_append_own _ rfl _ _ 24 rfl w.heap.size 5 i0 (.int .u8 0) 1 1 Tryd.underlying24 hi hz0 hz1 hz2 rfl (by decide) _ _ _ rfl (hown.alloc _) ⟨wr.heap.size, 0, none⟩ 1 1 [.int .u8 (m % 128 + 128)] rfl rfl ?c1 ?c2 ?c3 ?c4 ?c5 ?_)
        | go_in)
      case c1 =>
        intro j u hj
        match j, hj with
        | 0, hj => simp at hj; subst hj; simp [Addr.add]
      case c2 => intro u hu; simp at hu; subst hu; rfl
      case c3 => unfold maxLen; omega
      case c4 => omega
      case c5 => have := hbel.size; simp; omega
      intro v' w1 hown' hgrow _
      have hb1 : Below w.heap.size w w1 := (hbel.alloc hbel.size _).grown hgrow (by have := hbel.size; simp; omega) (fun k hk => (hown.lt k hk).1)
      clear hgrow hown hbel
      go_wp2
      go_roundw
      case rel => exact ⟨m / 128, l ++ [m % 128 + 128], by omega, by omega, rfl, by show _ = _; rw [List.append_assoc, List.singleton_append, ← unhide hput]; exact unhide hl, by simpa using hown', hb1⟩
      case measure => simp [intOf]; omega
    · have hlen := put_len n
      have hput : put m = [m] := by unfold put; rw [if_pos (by omega)]
      have hfin : l ++ [m] = put n := by rw [← hput]; exact unhide hl
      have HF := hide hfin
      have hll : l.length ≤ 4 := by
        have := congrArg List.length hfin; rw [List.length_append] at this; omega
      clear hput hfin
      go_wp2_with (first
        | (at_builtin; refine wpList_append_own _ rfl _ _ 24 rfl w.heap.size 5 i0 (.int .u8 0) 1 1 Tryd.underlying24 hi hz0 hz1 hz2 rfl (by decide) _ _ _ rfl (hown.alloc _) ⟨wr.heap.size, 0, none⟩ 1 1 [.int .u8 m] rfl rfl ?d1 ?d2 ?d3 ?d4 ?d5 ?_)
        | go_in)
      case d2 => rfl
      case d3 => unfold maxLen; omega
      case d4 => omega
      case d5 => have := hbel.size; simp; omega
      intro v' w1 hown' hgrow _
      have hb1 : Below w.heap.size w w1 := (hbel.alloc hbel.size _).grown hgrow (by have := hbel.size; simp; omega) (fun k hk => (hown.lt k hk).1)
      clear hgrow hown hbel
      go_wp2
      go_ret
      refine ⟨_, rfl, ?_, hb1⟩
      rw [← unhide HF]
      simpa using hown'
end Go.Proofs.YtpfpollejhdbgaaDoor.V
