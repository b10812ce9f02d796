/- Proved here: helpers, one text behind the other. -/
import Derived.Test.YtpfpollejhdbgaaDoorM1
import Derived.Test.YtpfpollejhdbgaaDoorM2
import Derived.Laws.BitsAllLaws
import Derived.Test.YtpfpollejhdbgaaDoorM3
import Derived.Handy
import Derived.Test.YtpfpollejhdbgaaDoorM4
/- Proved here: errors.As finds the api.Errno within an *api.Fault around another one. Helper contracts. -/
namespace Go.Proofs.YtpfpollejhdbgaaDoor
open Go.RowKit Go.Extern.Stop Go.Stop Go.Extern

set_option maxHeartbeats 4000000 in
theorem as_fault2 (b c : Nat) (n : Int) (t : Addr) (old : Value) (w : World) (hg : Laid w) (hc : w.cell? ⟨b, 1, none⟩ = some (.iface 79 (.pointer (some ⟨c, 0, none⟩)))) (hd : w.cell? ⟨c, 1, none⟩ = some (.iface 65 (.int .i64 n))) (ht0 : w.cell? t = some old) (hf0 : w.frozen? t = false) :
    Calls Tryd.prog 48 #[.iface 79 (.pointer (some ⟨b, 0, none⟩)), .iface 83 (.pointer (some t))] w fun ev w' => ev = .returned (.bool true) ∧ w' = ((((w.alloc (.cells #[.pointer (some t)] 83)).alloc (.cells #[.pointer (some ⟨1, 83, none⟩), .pointer (some ⟨w.heap.size, 0, none⟩), .int .u64 150] 101)).alloc (.cells #[.pointer (some ⟨1, 83, none⟩), .pointer (some ⟨w.heap.size, 0, none⟩), .int .u64 150] 101)).alloc (.cells #[.int .i64 n] 65)).setCell t (.int .i64 n) := by
  unfold Laid at hg
  have h6 := @run_callFunc_extern Tryd.prog 61 _ (fun args => ReflectliteValue.unpack (args.getD 0 (.tuple #[]))) Tryd.func61 (by kernel_rfl) (by kernel_rfl) (by kernel_rfl) (by kernel_rfl)
  have h7 := @run_callFunc_extern Tryd.prog 62 _ (ReflectliteValue.methodAny (ReflectliteValue.valueError "reflectlite.Value.Type" 0) (fun t _ _ _ => ReflectliteType.toType t)) Tryd.func62 (by kernel_rfl) (by kernel_rfl) (by kernel_rfl) (by kernel_rfl)
  have h8 := @run_callFunc_extern Tryd.prog 63 _ (ReflectliteValue.method (ReflectliteValue.valueError "reflectlite.Value.IsNil" 0) ReflectliteValue.isNil) Tryd.func63 (by kernel_rfl) (by kernel_rfl) (by kernel_rfl) (by kernel_rfl)
  have h27 := @run_callFunc_extern Tryd.prog 106 _ (ReflectliteType.abiMethod fun t => do pure (.int .u8 (← Rtype.kind t))) Tryd.func106 (by kernel_rfl) (by kernel_rfl) (by kernel_rfl) (by kernel_rfl)
  have h37 := @run_callFunc_extern Tryd.prog 118 _ (ReflectliteType.method ReflectliteType.elem) Tryd.func118 (by kernel_rfl) (by kernel_rfl) (by kernel_rfl) (by kernel_rfl)
  have h38 := @run_callFunc_extern Tryd.prog 119 _ (ReflectliteType.relation "Implements" ReflectliteType.implements_) Tryd.func119 (by kernel_rfl) (by kernel_rfl) (by kernel_rfl) (by kernel_rfl)
  have h10 := @run_callFunc_extern Tryd.prog 72 _ ReflectliteType.typeOf Tryd.func72 (by kernel_rfl) (by kernel_rfl) (by kernel_rfl) (by kernel_rfl)
  have h35 := @run_callFunc_extern Tryd.prog 116 _ (ReflectliteType.relation "AssignableTo" ReflectliteType.assignableTo) Tryd.func116 (by kernel_rfl) (by kernel_rfl) (by kernel_rfl) (by kernel_rfl)
  have h11 := @run_callFunc_extern Tryd.prog 76 _ (ReflectliteValue.method (ReflectliteValue.valueError "reflectlite.Value.Elem" 0) ReflectliteValue.elem) Tryd.func76 (by kernel_rfl) (by kernel_rfl) (by kernel_rfl) (by kernel_rfl)
  have h12 := @run_callFunc_extern Tryd.prog 77 _ ReflectliteValue.set Tryd.func77 (by kernel_rfl) (by kernel_rfl) (by kernel_rfl) (by kernel_rfl)
  have tO := typeOfE
  have tF := typeOfF
  have mA := methodAssignableTo
  have mU := methodUnwrap
  have a25 := assignableE
  have aF := assignableF
  have v25 := valueOfE
  have f6 := valueOfP
  have f7 := typeP
  have mK := methodKind
  have mE := methodElem
  have mI := methodImplements
  have k27 := kindP
  have k25 := kindE
  have e27 := elemP
  have i25 := implementsE
  have nA := noAsF
  have hU := hasUnwrapF
  have n8 := isNilP ⟨w.heap.size, 0, none⟩ t ((w.alloc (.cells #[.pointer (some t)] 83)).alloc (.cells #[.pointer (some ⟨1, 83, none⟩), .pointer (some ⟨w.heap.size, 0, none⟩), .int .u64 150] 101)) (by simp)
  have hlt : 0 < w.heap.size := by
    rcases Nat.eq_zero_or_pos w.heap.size with h0 | h
    · simp [World.cell?, h0] at hg
    · exact h
  have hg2 : ((w.alloc (.cells #[.pointer (some t)] 83)).alloc (.cells #[.pointer (some ⟨1, 83, none⟩), .pointer (some ⟨w.heap.size, 0, none⟩), .int .u64 150] 101)).cell? ⟨0, 0, none⟩ = some (.iface 122 (.agg #[.pointer (some ⟨1, 33, none⟩)])) := by
    rw [World.cell?_alloc_lt _ _ ⟨0, 0, none⟩ (by simp), World.cell?_alloc_lt _ _ ⟨0, 0, none⟩ hlt]; exact hg
  have htl : t.block < w.heap.size := by
    rcases Nat.lt_or_ge t.block w.heap.size with h | h
    · exact h
    · simp [World.cell?, Array.getElem?_eq_none h] at ht0
  have hbl : b < w.heap.size := by
    rcases Nat.lt_or_ge b w.heap.size with h | h
    · exact h
    · simp [World.cell?, Array.getElem?_eq_none h] at hc
  have hcl : c < w.heap.size := by
    rcases Nat.lt_or_ge c w.heap.size with h | h
    · exact h
    · simp [World.cell?, Array.getElem?_eq_none h] at hd
  have hc3 : (((w.alloc (.cells #[.pointer (some t)] 83)).alloc (.cells #[.pointer (some ⟨1, 83, none⟩), .pointer (some ⟨w.heap.size, 0, none⟩), .int .u64 150] 101)).alloc (.cells #[.pointer (some ⟨1, 83, none⟩), .pointer (some ⟨w.heap.size, 0, none⟩), .int .u64 150] 101)).cell? ⟨b, 1, none⟩ = some (.iface 79 (.pointer (some ⟨c, 0, none⟩))) := by
    rw [World.cell?_alloc_lt _ _ ⟨b, 1, none⟩ (by simp; omega), World.cell?_alloc_lt _ _ ⟨b, 1, none⟩ (by simp; omega), World.cell?_alloc_lt _ _ ⟨b, 1, none⟩ hbl]; exact hc
  have hd3 : (((w.alloc (.cells #[.pointer (some t)] 83)).alloc (.cells #[.pointer (some ⟨1, 83, none⟩), .pointer (some ⟨w.heap.size, 0, none⟩), .int .u64 150] 101)).alloc (.cells #[.pointer (some ⟨1, 83, none⟩), .pointer (some ⟨w.heap.size, 0, none⟩), .int .u64 150] 101)).cell? ⟨c, 1, none⟩ = some (.iface 65 (.int .i64 n)) := by
    rw [World.cell?_alloc_lt _ _ ⟨c, 1, none⟩ (by simp; omega), World.cell?_alloc_lt _ _ ⟨c, 1, none⟩ (by simp; omega), World.cell?_alloc_lt _ _ ⟨c, 1, none⟩ hcl]; exact hd
  have el := elemVP ⟨w.heap.size, 0, none⟩ t (((w.alloc (.cells #[.pointer (some t)] 83)).alloc (.cells #[.pointer (some ⟨1, 83, none⟩), .pointer (some ⟨w.heap.size, 0, none⟩), .int .u64 150] 101)).alloc (.cells #[.pointer (some ⟨1, 83, none⟩), .pointer (some ⟨w.heap.size, 0, none⟩), .int .u64 150] 101)) (by rw [World.cell?_alloc_lt _ _ ⟨w.heap.size, 0, none⟩ (by simp; omega)]; simp)
  have st := setE t ⟨w.heap.size + 1 + 1 + 1, 0, none⟩ n old ((((w.alloc (.cells #[.pointer (some t)] 83)).alloc (.cells #[.pointer (some ⟨1, 83, none⟩), .pointer (some ⟨w.heap.size, 0, none⟩), .int .u64 150] 101)).alloc (.cells #[.pointer (some ⟨1, 83, none⟩), .pointer (some ⟨w.heap.size, 0, none⟩), .int .u64 150] 101)).alloc (.cells #[.int .i64 n] 65))
    (by rw [World.cell?_alloc_at _ _ _ _ (by simp)]; rfl)
    (by rw [World.cell?_alloc_lt _ _ t (by simp; omega), World.cell?_alloc_lt _ _ t (by simp; omega), World.cell?_alloc_lt _ _ t (by simp; omega), World.cell?_alloc_lt _ _ t htl]; exact ht0)
    (by rw [World.frozen?_alloc_old _ _ t (by simp; omega), World.frozen?_alloc_old _ _ t (by simp; omega), World.frozen?_alloc_old _ _ t (by simp; omega), World.frozen?_alloc_old _ _ t (Nat.ne_of_lt htl)]; exact hf0)
  clear hg hc hd ht0 hf0 hbl hcl htl hlt
  go_enter Tryd.func48, Tryd.ntmps48
  go_wp2
  refine wp_loop_rounds 3 ?_
  rw [rounds_succ]
  go_wp2_with (go_at_call 111; refine (unwrap_any _ _ _ hc3).mono ?_; rintro e w' ⟨rfl, rfl⟩)
  rw [rounds_succ]
  go_wp2_with (go_at_call 111; refine (unwrap_any _ _ _ hd3).mono ?_; rintro e w' ⟨rfl, rfl⟩)
  rw [rounds_succ]
  go_wp2
  go_ret
  exact ⟨rfl, rfl⟩
end Go.Proofs.YtpfpollejhdbgaaDoor
/- Proved here: dovecoteref1.Put tells the same bytes as varint.Put, in memory of its own. Helper contract. -/
namespace Go.Proofs.YtpfpollejhdbgaaDoor.V
open Go.RowKit
set_option maxRecDepth 100000

theorem Tryd.infoU8 : (Tryd.prog.info? 5).map (fun i => (i.zero, i.size, i.bytes)) = some (some (.int .u8 0), 1, 1) := by kernel_rfl

theorem put_step (m : Int) (h0 : 128 ≤ m) (h1 : m ≤ 268435455) : put m = (m % 128 + 128) :: put (m / 128) := by
  unfold put
  rw [if_neg (show ¬ m < 128 by omega)]
  by_cases b : m < 16384
  · rw [if_pos b, if_pos (show m / 128 < 128 by omega)]
  · rw [if_neg b, if_neg (show ¬ m / 128 < 128 by omega)]
    by_cases c : m < 2097152
    · rw [if_pos c, if_pos (show m / 128 < 16384 by omega), show m / 128 / 128 = m / 16384 by omega]
    · rw [if_neg c, if_neg (show ¬ m / 128 < 16384 by omega), if_pos (show m / 128 < 2097152 by omega), show m / 128 / 128 = m / 16384 by omega, show m / 128 / 16384 = m / 2097152 by omega]

set_option maxHeartbeats 1000000 in
theorem rput_any (n : Int) (w : World) (h0 : 0 ≤ n) (h1 : n ≤ 268435455) :
    Calls Tryd.prog 28 #[.int .i64 n] w fun e w' => ∃ v, e = .returned v ∧ w'.ownsRow w.heap.size 5 1 v (put n).length ((put n).map (Value.int .u8)) ∧ Below w.heap.size w w' := by
  obtain ⟨i0, hi, hz0, hz1, hz2⟩ := info_parts Tryd.infoU8
  go_enter Tryd.func28, Tryd.ntmps28
  go_wp2
  go_loopw [0, 3] (fun t b wr => ∃ (m : Int) (l : List Int), 0 ≤ m ∧ m ≤ 268435455 ∧ t = .int .i64 m ∧ Hid (l ++ put m = put n) ∧ wr.ownsRow w.heap.size 5 1 b l.length (l.map (Value.int .u8)) ∧ Below w.heap.size w wr) (fun t _ _ => (intOf t).toNat)
  case atStart => exact ⟨n, [], h0, h1, rfl, rfl, World.ownsRow_nil _ _ _ _, Below.refl _ _⟩
  case round =>
    obtain ⟨m, l, hm0, hm1, rfl, hl, hown, hbel⟩ := hrel
    by_cases hlt : 128 ≤ m
    · have hx : bits .or .u8 (m % 128) 128 = m % 128 + 128 := by rw [more_of' _ (by omega) (by omega)]; omega
      have hput := hide (put_step m hlt hm1)
      have hlen := put_len n
      have hll : l.length ≤ 4 := by
        have := congrArg List.length (unhide hl); rw [List.length_append] at this; omega
      go_wp2_with (first
        | (at_builtin; refine wpList_append_own _ rfl _ _ 24 rfl w.heap.size 5 i0 (.int .u8 0) 1 1 Tryd.underlying24 hi hz0 hz1 hz2 rfl (by decide) _ _ _ rfl (hown.alloc _) ⟨wr.heap.size, 0, none⟩ 1 1 [.int .u8 (m % 128 + 128)] rfl rfl ?c1 ?c2 ?c3 ?c4 ?c5 ?_)
        | go_in)
      case c1 =>
        intro j u hj
        match j, hj with
        | 0, hj => simp at hj; subst hj; simp [Addr.add]
      case c2 => intro u hu; simp at hu; subst hu; rfl
      case c3 => unfold maxLen; omega
      case c4 => omega
      case c5 => have := hbel.size; simp; omega
      intro v' w1 hown' hgrow _
      have hb1 : Below w.heap.size w w1 := (hbel.alloc hbel.size _).grown hgrow (by have := hbel.size; simp; omega) (fun k hk => (hown.lt k hk).1)
      clear hgrow hown hbel
      go_wp2
      go_roundw
      case rel => exact ⟨m / 128, l ++ [m % 128 + 128], by omega, by omega, rfl, by show _ = _; rw [List.append_assoc, List.singleton_append, ← unhide hput]; exact unhide hl, by simpa using hown', hb1⟩
      case measure => simp [intOf]; omega
    · have hlen := put_len n
      have hput : put m = [m] := by unfold put; rw [if_pos (by omega)]
      have hfin : l ++ [m] = put n := by rw [← hput]; exact unhide hl
      have HF := hide hfin
      have hll : l.length ≤ 4 := by
        have := congrArg List.length hfin; rw [List.length_append] at this; omega
      clear hput hfin
      go_wp2_with (first
        | (at_builtin; refine wpList_append_own _ rfl _ _ 24 rfl w.heap.size 5 i0 (.int .u8 0) 1 1 Tryd.underlying24 hi hz0 hz1 hz2 rfl (by decide) _ _ _ rfl (hown.alloc _) ⟨wr.heap.size, 0, none⟩ 1 1 [.int .u8 m] rfl rfl ?d1 ?d2 ?d3 ?d4 ?d5 ?_)
        | go_in)
      case d2 => rfl
      case d3 => unfold maxLen; omega
      case d4 => omega
      case d5 => have := hbel.size; simp; omega
      intro v' w1 hown' hgrow _
      have hb1 : Below w.heap.size w w1 := (hbel.alloc hbel.size _).grown hgrow (by have := hbel.size; simp; omega) (fun k hk => (hown.lt k hk).1)
      clear hgrow hown hbel
      go_wp2
      go_ret
      refine ⟨_, rfl, ?_, hb1⟩
      rw [← unhide HF]
      simpa using hown'
end Go.Proofs.YtpfpollejhdbgaaDoor.V
/- Proved here: varint.Get tells the number with whose bytes any bytes begin and how many they are, or a Fault around ErrShort or ErrForm; dovecoteref1.Get tells the same. Helper contracts. -/
namespace Go.Proofs.YtpfpollejhdbgaaDoor.V
open Go.RowKit
set_option maxRecDepth 100000

theorem ofInt_64 (a : Nat) (ha : a < 18446744073709551616) : (BitVec.ofInt 64 (a : Int)).toNat = a := by
  rw [BitVec.ofInt_natCast, BitVec.toNat_ofNat]; exact Nat.mod_eq_of_lt (by omega)
theorem i64_or_nat (a b : Nat) (ha : a < 4611686018427387904) (hb : b < 4611686018427387904) : bits .or .i64 (a : Int) (b : Int) = ((a ||| b : Nat) : Int) := by
  have hx : a ||| b < 2 ^ 62 := Nat.or_lt_two_pow (by omega) (by omega)
  show IntKind.i64.wrap ((BitVec.ofInt 64 (a : Int) ||| BitVec.ofInt 64 (b : Int)).toNat : Int) = _
  rw [BitVec.toNat_or, ofInt_64 a (by omega), ofInt_64 b (by omega), IntKind.wrap_i64]
  omega
theorem or_hi (i : Nat) (x y : Int) (hx0 : 0 ≤ x) (hx1 : x < 4611686018427387904) (hy0 : 0 ≤ y) (hy1 : y < 4611686018427387904) (hm : x.toNat % 2 ^ i = 0) (hy : y.toNat < 2 ^ i) : bits .or .i64 x y = x + y := by
  obtain ⟨a, rfl⟩ := Int.eq_ofNat_of_zero_le hx0
  obtain ⟨b, rfl⟩ := Int.eq_ofNat_of_zero_le hy0
  rw [i64_or_nat a b (by omega) (by omega), nat_join i a b (by simpa using hm) (by simpa using hy)]
  omega
theorem or_lo (i : Nat) (x y : Int) (hx0 : 0 ≤ x) (hx1 : x < 4611686018427387904) (hy0 : 0 ≤ y) (hy1 : y < 4611686018427387904) (hm : y.toNat % 2 ^ i = 0) (hx : x.toNat < 2 ^ i) : bits .or .i64 x y = x + y := by
  obtain ⟨a, rfl⟩ := Int.eq_ofNat_of_zero_le hx0
  obtain ⟨b, rfl⟩ := Int.eq_ofNat_of_zero_le hy0
  rw [i64_or_nat a b (by omega) (by omega), Nat.or_comm, nat_join i b a (by simpa using hm) (by simpa using hx)]
  omega
theorem or_zero (y : Int) (hy0 : 0 ≤ y) (hy1 : y < 4611686018427387904) : bits .or .i64 0 y = y := by
  rw [or_lo 0 0 y (by omega) (by omega) hy0 hy1 (by omega) (by decide)]; omega
theorem and128_hi (x : Int) (h0 : 128 ≤ x) (h1 : x ≤ 255) : bits .and .u8 x 128 = 128 := by
  rw [and128 x (by omega) (by omega), if_neg (by omega)]
theorem and128_lo (x : Int) (h0 : 0 ≤ x) (h1 : x < 128) : bits .and .u8 x 128 = 0 := by
  rw [and128 x (by omega) (by omega), if_pos (by omega)]
theorem and127_hi (x : Int) (h0 : 128 ≤ x) (h1 : x ≤ 255) : bits .and .u8 x 127 = x - 128 := by
  rw [and127 x (by omega) (by omega)]; omega
theorem and127_lo (x : Int) (h0 : 0 ≤ x) (h1 : x < 128) : bits .and .u8 x 127 = x := by
  rw [and127 x (by omega) (by omega)]; omega

theorem meas_s0 (ao : Option Addr) (cap : Nat) (w : World) :
    Calls Tryd.prog 49 #[.slice ao 0 cap] w fun e w' => e = .returned (.tuple #[.int .i64 0, .iface 79 (.pointer (some ⟨w.heap.size, 0, none⟩))]) ∧ w' = w.alloc (.cells #[.string ⟨#[118, 97, 114, 105, 110, 116]⟩, .iface 65 (.int .i64 3)] 81) := by
  go_enter Tryd.func49, Tryd.ntmps49
  go_wp2
  refine wp_loop_rounds 1 ?_
  rw [rounds_succ]
  go_wp2_with (go_at_call 46; refine (fault_any _ _).mono ?_; rintro e w' ⟨rfl, rfl⟩)
  go_ret2
  exact ⟨rfl, rfl⟩

theorem meas_o1 (b off len cap : Nat) (x0 : Int) (w : World) (hlen : len ≤ maxLen) (hl : 0 < len) (c0 : w.cell? ⟨b, off, none⟩ = some (.int .u8 x0)) (p0 : 0 ≤ x0) (p1 : x0 < 128) :
    Calls Tryd.prog 49 #[.slice (some ⟨b, off, none⟩) len cap] w fun e w' => e = .returned (.tuple #[.int .i64 1, .nilIface]) ∧ w' = w := by
  unfold maxLen at hlen
  have k0 := and128_lo x0 (by omega) p1
  go_enter Tryd.func49, Tryd.ntmps49
  go_wp2
  refine wp_loop_rounds 1 ?_
  rw [rounds_succ]
  go_wp2
  go_ret2
  exact ⟨rfl, rfl⟩

theorem meas_s1 (b off len cap : Nat) (x0 : Int) (w : World) (hlen : len ≤ maxLen) (hl : len = 1) (c0 : w.cell? ⟨b, off, none⟩ = some (.int .u8 x0)) (r0 : 0 ≤ x0 ∧ x0 ≤ 255) (g0 : 128 ≤ x0) :
    Calls Tryd.prog 49 #[.slice (some ⟨b, off, none⟩) len cap] w fun e w' => e = .returned (.tuple #[.int .i64 0, .iface 79 (.pointer (some ⟨w.heap.size, 0, none⟩))]) ∧ w' = w.alloc (.cells #[.string ⟨#[118, 97, 114, 105, 110, 116]⟩, .iface 65 (.int .i64 3)] 81) := by
  unfold maxLen at hlen
  have k0 := and128_hi x0 g0 r0.2
  subst hl
  go_enter Tryd.func49, Tryd.ntmps49
  go_wp2
  refine wp_loop_rounds 2 ?_
  rw [rounds_succ]
  go_wp2
  rw [rounds_succ]
  go_wp2_with (go_at_call 46; refine (fault_any _ _).mono ?_; rintro e w' ⟨rfl, rfl⟩)
  go_ret2
  exact ⟨rfl, rfl⟩

theorem meas_z2 (b off len cap : Nat) (x0 x1 : Int) (w : World) (hlen : len ≤ maxLen) (hl : 1 < len) (c0 : w.cell? ⟨b, off, none⟩ = some (.int .u8 x0)) (r0 : 0 ≤ x0 ∧ x0 ≤ 255) (c1 : w.cell? ⟨b, off + 1, none⟩ = some (.int .u8 x1)) (g0 : 128 ≤ x0) (p0 : x1 = 0) :
    Calls Tryd.prog 49 #[.slice (some ⟨b, off, none⟩) len cap] w fun e w' => e = .returned (.tuple #[.int .i64 0, .iface 79 (.pointer (some ⟨w.heap.size, 0, none⟩))]) ∧ w' = w.alloc (.cells #[.string ⟨#[118, 97, 114, 105, 110, 116]⟩, .iface 65 (.int .i64 1)] 81) := by
  unfold maxLen at hlen
  have k0 := and128_hi x0 g0 r0.2
  subst p0
  have k1 := and128_lo 0 (by omega) (by omega)
  go_enter Tryd.func49, Tryd.ntmps49
  go_wp2
  refine wp_loop_rounds 2 ?_
  rw [rounds_succ]
  go_wp2
  rw [rounds_succ]
  go_wp2_with (go_at_call 46; refine (fault_any _ _).mono ?_; rintro e w' ⟨rfl, rfl⟩)
  go_ret2
  exact ⟨rfl, rfl⟩

theorem meas_o2 (b off len cap : Nat) (x0 x1 : Int) (w : World) (hlen : len ≤ maxLen) (hl : 1 < len) (c0 : w.cell? ⟨b, off, none⟩ = some (.int .u8 x0)) (r0 : 0 ≤ x0 ∧ x0 ≤ 255) (c1 : w.cell? ⟨b, off + 1, none⟩ = some (.int .u8 x1)) (g0 : 128 ≤ x0) (p0 : 1 ≤ x1) (p1 : x1 < 128) :
    Calls Tryd.prog 49 #[.slice (some ⟨b, off, none⟩) len cap] w fun e w' => e = .returned (.tuple #[.int .i64 2, .nilIface]) ∧ w' = w := by
  unfold maxLen at hlen
  have k0 := and128_hi x0 g0 r0.2
  have k1 := and128_lo x1 (by omega) p1
  go_enter Tryd.func49, Tryd.ntmps49
  go_wp2
  refine wp_loop_rounds 2 ?_
  rw [rounds_succ]
  go_wp2
  rw [rounds_succ]
  go_wp2
  go_ret2
  exact ⟨rfl, rfl⟩

theorem meas_s2 (b off len cap : Nat) (x0 x1 : Int) (w : World) (hlen : len ≤ maxLen) (hl : len = 2) (c0 : w.cell? ⟨b, off, none⟩ = some (.int .u8 x0)) (r0 : 0 ≤ x0 ∧ x0 ≤ 255) (c1 : w.cell? ⟨b, off + 1, none⟩ = some (.int .u8 x1)) (r1 : 0 ≤ x1 ∧ x1 ≤ 255) (g0 : 128 ≤ x0) (g1 : 128 ≤ x1) :
    Calls Tryd.prog 49 #[.slice (some ⟨b, off, none⟩) len cap] w fun e w' => e = .returned (.tuple #[.int .i64 0, .iface 79 (.pointer (some ⟨w.heap.size, 0, none⟩))]) ∧ w' = w.alloc (.cells #[.string ⟨#[118, 97, 114, 105, 110, 116]⟩, .iface 65 (.int .i64 3)] 81) := by
  unfold maxLen at hlen
  have k0 := and128_hi x0 g0 r0.2
  have k1 := and128_hi x1 g1 r1.2
  subst hl
  go_enter Tryd.func49, Tryd.ntmps49
  go_wp2
  refine wp_loop_rounds 3 ?_
  rw [rounds_succ]
  go_wp2
  rw [rounds_succ]
  go_wp2
  rw [rounds_succ]
  go_wp2_with (go_at_call 46; refine (fault_any _ _).mono ?_; rintro e w' ⟨rfl, rfl⟩)
  go_ret2
  exact ⟨rfl, rfl⟩

theorem meas_z3 (b off len cap : Nat) (x0 x1 x2 : Int) (w : World) (hlen : len ≤ maxLen) (hl : 2 < len) (c0 : w.cell? ⟨b, off, none⟩ = some (.int .u8 x0)) (r0 : 0 ≤ x0 ∧ x0 ≤ 255) (c1 : w.cell? ⟨b, off + 1, none⟩ = some (.int .u8 x1)) (r1 : 0 ≤ x1 ∧ x1 ≤ 255) (c2 : w.cell? ⟨b, off + 2, none⟩ = some (.int .u8 x2)) (g0 : 128 ≤ x0) (g1 : 128 ≤ x1) (p0 : x2 = 0) :
    Calls Tryd.prog 49 #[.slice (some ⟨b, off, none⟩) len cap] w fun e w' => e = .returned (.tuple #[.int .i64 0, .iface 79 (.pointer (some ⟨w.heap.size, 0, none⟩))]) ∧ w' = w.alloc (.cells #[.string ⟨#[118, 97, 114, 105, 110, 116]⟩, .iface 65 (.int .i64 1)] 81) := by
  unfold maxLen at hlen
  have k0 := and128_hi x0 g0 r0.2
  have k1 := and128_hi x1 g1 r1.2
  subst p0
  have k2 := and128_lo 0 (by omega) (by omega)
  go_enter Tryd.func49, Tryd.ntmps49
  go_wp2
  refine wp_loop_rounds 3 ?_
  rw [rounds_succ]
  go_wp2
  rw [rounds_succ]
  go_wp2
  rw [rounds_succ]
  go_wp2_with (go_at_call 46; refine (fault_any _ _).mono ?_; rintro e w' ⟨rfl, rfl⟩)
  go_ret2
  exact ⟨rfl, rfl⟩

theorem meas_o3 (b off len cap : Nat) (x0 x1 x2 : Int) (w : World) (hlen : len ≤ maxLen) (hl : 2 < len) (c0 : w.cell? ⟨b, off, none⟩ = some (.int .u8 x0)) (r0 : 0 ≤ x0 ∧ x0 ≤ 255) (c1 : w.cell? ⟨b, off + 1, none⟩ = some (.int .u8 x1)) (r1 : 0 ≤ x1 ∧ x1 ≤ 255) (c2 : w.cell? ⟨b, off + 2, none⟩ = some (.int .u8 x2)) (g0 : 128 ≤ x0) (g1 : 128 ≤ x1) (p0 : 1 ≤ x2) (p1 : x2 < 128) :
    Calls Tryd.prog 49 #[.slice (some ⟨b, off, none⟩) len cap] w fun e w' => e = .returned (.tuple #[.int .i64 3, .nilIface]) ∧ w' = w := by
  unfold maxLen at hlen
  have k0 := and128_hi x0 g0 r0.2
  have k1 := and128_hi x1 g1 r1.2
  have k2 := and128_lo x2 (by omega) p1
  go_enter Tryd.func49, Tryd.ntmps49
  go_wp2
  refine wp_loop_rounds 3 ?_
  rw [rounds_succ]
  go_wp2
  rw [rounds_succ]
  go_wp2
  rw [rounds_succ]
  go_wp2
  go_ret2
  exact ⟨rfl, rfl⟩

theorem meas_s3 (b off len cap : Nat) (x0 x1 x2 : Int) (w : World) (hlen : len ≤ maxLen) (hl : len = 3) (c0 : w.cell? ⟨b, off, none⟩ = some (.int .u8 x0)) (r0 : 0 ≤ x0 ∧ x0 ≤ 255) (c1 : w.cell? ⟨b, off + 1, none⟩ = some (.int .u8 x1)) (r1 : 0 ≤ x1 ∧ x1 ≤ 255) (c2 : w.cell? ⟨b, off + 2, none⟩ = some (.int .u8 x2)) (r2 : 0 ≤ x2 ∧ x2 ≤ 255) (g0 : 128 ≤ x0) (g1 : 128 ≤ x1) (g2 : 128 ≤ x2) :
    Calls Tryd.prog 49 #[.slice (some ⟨b, off, none⟩) len cap] w fun e w' => e = .returned (.tuple #[.int .i64 0, .iface 79 (.pointer (some ⟨w.heap.size, 0, none⟩))]) ∧ w' = w.alloc (.cells #[.string ⟨#[118, 97, 114, 105, 110, 116]⟩, .iface 65 (.int .i64 3)] 81) := by
  unfold maxLen at hlen
  have k0 := and128_hi x0 g0 r0.2
  have k1 := and128_hi x1 g1 r1.2
  have k2 := and128_hi x2 g2 r2.2
  subst hl
  go_enter Tryd.func49, Tryd.ntmps49
  go_wp2
  refine wp_loop_rounds 4 ?_
  rw [rounds_succ]
  go_wp2
  rw [rounds_succ]
  go_wp2
  rw [rounds_succ]
  go_wp2
  rw [rounds_succ]
  go_wp2_with (go_at_call 46; refine (fault_any _ _).mono ?_; rintro e w' ⟨rfl, rfl⟩)
  go_ret2
  exact ⟨rfl, rfl⟩

theorem meas_z4 (b off len cap : Nat) (x0 x1 x2 x3 : Int) (w : World) (hlen : len ≤ maxLen) (hl : 3 < len) (c0 : w.cell? ⟨b, off, none⟩ = some (.int .u8 x0)) (r0 : 0 ≤ x0 ∧ x0 ≤ 255) (c1 : w.cell? ⟨b, off + 1, none⟩ = some (.int .u8 x1)) (r1 : 0 ≤ x1 ∧ x1 ≤ 255) (c2 : w.cell? ⟨b, off + 2, none⟩ = some (.int .u8 x2)) (r2 : 0 ≤ x2 ∧ x2 ≤ 255) (c3 : w.cell? ⟨b, off + 3, none⟩ = some (.int .u8 x3)) (g0 : 128 ≤ x0) (g1 : 128 ≤ x1) (g2 : 128 ≤ x2) (p0 : x3 = 0) :
    Calls Tryd.prog 49 #[.slice (some ⟨b, off, none⟩) len cap] w fun e w' => e = .returned (.tuple #[.int .i64 0, .iface 79 (.pointer (some ⟨w.heap.size, 0, none⟩))]) ∧ w' = w.alloc (.cells #[.string ⟨#[118, 97, 114, 105, 110, 116]⟩, .iface 65 (.int .i64 1)] 81) := by
  unfold maxLen at hlen
  have k0 := and128_hi x0 g0 r0.2
  have k1 := and128_hi x1 g1 r1.2
  have k2 := and128_hi x2 g2 r2.2
  subst p0
  have k3 := and128_lo 0 (by omega) (by omega)
  go_enter Tryd.func49, Tryd.ntmps49
  go_wp2
  refine wp_loop_rounds 4 ?_
  rw [rounds_succ]
  go_wp2
  rw [rounds_succ]
  go_wp2
  rw [rounds_succ]
  go_wp2
  rw [rounds_succ]
  go_wp2_with (go_at_call 46; refine (fault_any _ _).mono ?_; rintro e w' ⟨rfl, rfl⟩)
  go_ret2
  exact ⟨rfl, rfl⟩

theorem meas_o4 (b off len cap : Nat) (x0 x1 x2 x3 : Int) (w : World) (hlen : len ≤ maxLen) (hl : 3 < len) (c0 : w.cell? ⟨b, off, none⟩ = some (.int .u8 x0)) (r0 : 0 ≤ x0 ∧ x0 ≤ 255) (c1 : w.cell? ⟨b, off + 1, none⟩ = some (.int .u8 x1)) (r1 : 0 ≤ x1 ∧ x1 ≤ 255) (c2 : w.cell? ⟨b, off + 2, none⟩ = some (.int .u8 x2)) (r2 : 0 ≤ x2 ∧ x2 ≤ 255) (c3 : w.cell? ⟨b, off + 3, none⟩ = some (.int .u8 x3)) (g0 : 128 ≤ x0) (g1 : 128 ≤ x1) (g2 : 128 ≤ x2) (p0 : 1 ≤ x3) (p1 : x3 < 128) :
    Calls Tryd.prog 49 #[.slice (some ⟨b, off, none⟩) len cap] w fun e w' => e = .returned (.tuple #[.int .i64 4, .nilIface]) ∧ w' = w := by
  unfold maxLen at hlen
  have k0 := and128_hi x0 g0 r0.2
  have k1 := and128_hi x1 g1 r1.2
  have k2 := and128_hi x2 g2 r2.2
  have k3 := and128_lo x3 (by omega) p1
  go_enter Tryd.func49, Tryd.ntmps49
  go_wp2
  refine wp_loop_rounds 4 ?_
  rw [rounds_succ]
  go_wp2
  rw [rounds_succ]
  go_wp2
  rw [rounds_succ]
  go_wp2
  rw [rounds_succ]
  go_wp2
  go_ret2
  exact ⟨rfl, rfl⟩

theorem meas_l4 (b off len cap : Nat) (x0 x1 x2 x3 : Int) (w : World) (hlen : len ≤ maxLen) (hl : 3 < len) (c0 : w.cell? ⟨b, off, none⟩ = some (.int .u8 x0)) (r0 : 0 ≤ x0 ∧ x0 ≤ 255) (c1 : w.cell? ⟨b, off + 1, none⟩ = some (.int .u8 x1)) (r1 : 0 ≤ x1 ∧ x1 ≤ 255) (c2 : w.cell? ⟨b, off + 2, none⟩ = some (.int .u8 x2)) (r2 : 0 ≤ x2 ∧ x2 ≤ 255) (c3 : w.cell? ⟨b, off + 3, none⟩ = some (.int .u8 x3)) (r3 : 0 ≤ x3 ∧ x3 ≤ 255) (g0 : 128 ≤ x0) (g1 : 128 ≤ x1) (g2 : 128 ≤ x2) (g3 : 128 ≤ x3) :
    Calls Tryd.prog 49 #[.slice (some ⟨b, off, none⟩) len cap] w fun e w' => e = .returned (.tuple #[.int .i64 0, .iface 79 (.pointer (some ⟨w.heap.size, 0, none⟩))]) ∧ w' = w.alloc (.cells #[.string ⟨#[118, 97, 114, 105, 110, 116]⟩, .iface 65 (.int .i64 1)] 81) := by
  unfold maxLen at hlen
  have k0 := and128_hi x0 g0 r0.2
  have k1 := and128_hi x1 g1 r1.2
  have k2 := and128_hi x2 g2 r2.2
  have k3 := and128_hi x3 g3 r3.2
  go_enter Tryd.func49, Tryd.ntmps49
  go_wp2
  refine wp_loop_rounds 5 ?_
  rw [rounds_succ]
  go_wp2
  rw [rounds_succ]
  go_wp2
  rw [rounds_succ]
  go_wp2
  rw [rounds_succ]
  go_wp2
  rw [rounds_succ]
  go_wp2_with (go_at_call 46; refine (fault_any _ _).mono ?_; rintro e w' ⟨rfl, rfl⟩)
  go_ret2
  exact ⟨rfl, rfl⟩

theorem get_s0 (ao : Option Addr) (cap : Nat) (w : World) :
    Calls Tryd.prog 34 #[.slice ao 0 cap] w fun e w' => e = .returned (.tuple #[.int .i64 0, .int .i64 0, .iface 79 (.pointer (some ⟨w.heap.size, 0, none⟩))]) ∧ w' = w.alloc (.cells #[.string ⟨#[118, 97, 114, 105, 110, 116]⟩, .iface 65 (.int .i64 3)] 81) := by
  have HM := hide (meas_s0 ao cap w)
  go_enter Tryd.func34, Tryd.ntmps34
  go_wp2_with (go_at_call 49; refine (unhide HM).mono ?_; rintro e w' ⟨rfl, rfl⟩)
  go_ret3
  exact ⟨rfl, rfl⟩

theorem get_o1 (b off len cap : Nat) (x0 : Int) (w : World) (hlen : len ≤ maxLen) (hl : 0 < len) (c0 : w.cell? ⟨b, off, none⟩ = some (.int .u8 x0)) (p0 : 0 ≤ x0) (p1 : x0 < 128) :
    Calls Tryd.prog 34 #[.slice (some ⟨b, off, none⟩) len cap] w fun e w' => e = .returned (.tuple #[.int .i64 (x0), .int .i64 1, .nilIface]) ∧ w' = w := by
  have HM := hide (meas_o1 b off len cap x0 w hlen hl c0 p0 p1)
  unfold maxLen at hlen
  have k0 := and127_lo x0 (by omega) p1
  go_enter Tryd.func34, Tryd.ntmps34
  go_wp2_with (go_at_call 49; refine (unhide HM).mono ?_; rintro e w' ⟨rfl, rfl⟩)
  go_ret3
  refine ⟨congrArg (fun z : Int => Ending.returned (.tuple #[.int .i64 z, .int .i64 1, .nilIface])) ?_, rfl⟩
  rw [or_zero (x0) (by omega) (by omega)]

theorem get_s1 (b off len cap : Nat) (x0 : Int) (w : World) (hlen : len ≤ maxLen) (hl : len = 1) (c0 : w.cell? ⟨b, off, none⟩ = some (.int .u8 x0)) (r0 : 0 ≤ x0 ∧ x0 ≤ 255) (g0 : 128 ≤ x0) :
    Calls Tryd.prog 34 #[.slice (some ⟨b, off, none⟩) len cap] w fun e w' => e = .returned (.tuple #[.int .i64 0, .int .i64 0, .iface 79 (.pointer (some ⟨w.heap.size, 0, none⟩))]) ∧ w' = w.alloc (.cells #[.string ⟨#[118, 97, 114, 105, 110, 116]⟩, .iface 65 (.int .i64 3)] 81) := by
  have HM := hide (meas_s1 b off len cap x0 w hlen hl c0 r0 g0)
  unfold maxLen at hlen
  subst hl
  go_enter Tryd.func34, Tryd.ntmps34
  go_wp2_with (go_at_call 49; refine (unhide HM).mono ?_; rintro e w' ⟨rfl, rfl⟩)
  go_ret3
  exact ⟨rfl, rfl⟩

theorem get_z2 (b off len cap : Nat) (x0 x1 : Int) (w : World) (hlen : len ≤ maxLen) (hl : 1 < len) (c0 : w.cell? ⟨b, off, none⟩ = some (.int .u8 x0)) (r0 : 0 ≤ x0 ∧ x0 ≤ 255) (c1 : w.cell? ⟨b, off + 1, none⟩ = some (.int .u8 x1)) (g0 : 128 ≤ x0) (p0 : x1 = 0) :
    Calls Tryd.prog 34 #[.slice (some ⟨b, off, none⟩) len cap] w fun e w' => e = .returned (.tuple #[.int .i64 0, .int .i64 0, .iface 79 (.pointer (some ⟨w.heap.size, 0, none⟩))]) ∧ w' = w.alloc (.cells #[.string ⟨#[118, 97, 114, 105, 110, 116]⟩, .iface 65 (.int .i64 1)] 81) := by
  have HM := hide (meas_z2 b off len cap x0 x1 w hlen hl c0 r0 c1 g0 p0)
  unfold maxLen at hlen
  subst p0
  go_enter Tryd.func34, Tryd.ntmps34
  go_wp2_with (go_at_call 49; refine (unhide HM).mono ?_; rintro e w' ⟨rfl, rfl⟩)
  go_ret3
  exact ⟨rfl, rfl⟩

theorem get_o2 (b off len cap : Nat) (x0 x1 : Int) (w : World) (hlen : len ≤ maxLen) (hl : 1 < len) (c0 : w.cell? ⟨b, off, none⟩ = some (.int .u8 x0)) (r0 : 0 ≤ x0 ∧ x0 ≤ 255) (c1 : w.cell? ⟨b, off + 1, none⟩ = some (.int .u8 x1)) (g0 : 128 ≤ x0) (p0 : 1 ≤ x1) (p1 : x1 < 128) :
    Calls Tryd.prog 34 #[.slice (some ⟨b, off, none⟩) len cap] w fun e w' => e = .returned (.tuple #[.int .i64 ((x0 - 128) + x1 * 128), .int .i64 2, .nilIface]) ∧ w' = w := by
  have HM := hide (meas_o2 b off len cap x0 x1 w hlen hl c0 r0 c1 g0 p0 p1)
  unfold maxLen at hlen
  have k0 := and127_hi x0 g0 r0.2
  have k1 := and127_lo x1 (by omega) p1
  go_enter Tryd.func34, Tryd.ntmps34
  go_wp2_with (go_at_call 49; refine (unhide HM).mono ?_; rintro e w' ⟨rfl, rfl⟩)
  go_ret3
  refine ⟨congrArg (fun z : Int => Ending.returned (.tuple #[.int .i64 z, .int .i64 2, .nilIface])) ?_, rfl⟩
  rw [or_zero (x1 * 128) (by omega) (by omega), or_hi 7 (x1 * 128) ((x0 - 128)) (by omega) (by omega) (by omega) (by omega) (by omega) (by omega)]
  omega

theorem get_s2 (b off len cap : Nat) (x0 x1 : Int) (w : World) (hlen : len ≤ maxLen) (hl : len = 2) (c0 : w.cell? ⟨b, off, none⟩ = some (.int .u8 x0)) (r0 : 0 ≤ x0 ∧ x0 ≤ 255) (c1 : w.cell? ⟨b, off + 1, none⟩ = some (.int .u8 x1)) (r1 : 0 ≤ x1 ∧ x1 ≤ 255) (g0 : 128 ≤ x0) (g1 : 128 ≤ x1) :
    Calls Tryd.prog 34 #[.slice (some ⟨b, off, none⟩) len cap] w fun e w' => e = .returned (.tuple #[.int .i64 0, .int .i64 0, .iface 79 (.pointer (some ⟨w.heap.size, 0, none⟩))]) ∧ w' = w.alloc (.cells #[.string ⟨#[118, 97, 114, 105, 110, 116]⟩, .iface 65 (.int .i64 3)] 81) := by
  have HM := hide (meas_s2 b off len cap x0 x1 w hlen hl c0 r0 c1 r1 g0 g1)
  unfold maxLen at hlen
  subst hl
  go_enter Tryd.func34, Tryd.ntmps34
  go_wp2_with (go_at_call 49; refine (unhide HM).mono ?_; rintro e w' ⟨rfl, rfl⟩)
  go_ret3
  exact ⟨rfl, rfl⟩

theorem get_z3 (b off len cap : Nat) (x0 x1 x2 : Int) (w : World) (hlen : len ≤ maxLen) (hl : 2 < len) (c0 : w.cell? ⟨b, off, none⟩ = some (.int .u8 x0)) (r0 : 0 ≤ x0 ∧ x0 ≤ 255) (c1 : w.cell? ⟨b, off + 1, none⟩ = some (.int .u8 x1)) (r1 : 0 ≤ x1 ∧ x1 ≤ 255) (c2 : w.cell? ⟨b, off + 2, none⟩ = some (.int .u8 x2)) (g0 : 128 ≤ x0) (g1 : 128 ≤ x1) (p0 : x2 = 0) :
    Calls Tryd.prog 34 #[.slice (some ⟨b, off, none⟩) len cap] w fun e w' => e = .returned (.tuple #[.int .i64 0, .int .i64 0, .iface 79 (.pointer (some ⟨w.heap.size, 0, none⟩))]) ∧ w' = w.alloc (.cells #[.string ⟨#[118, 97, 114, 105, 110, 116]⟩, .iface 65 (.int .i64 1)] 81) := by
  have HM := hide (meas_z3 b off len cap x0 x1 x2 w hlen hl c0 r0 c1 r1 c2 g0 g1 p0)
  unfold maxLen at hlen
  subst p0
  go_enter Tryd.func34, Tryd.ntmps34
  go_wp2_with (go_at_call 49; refine (unhide HM).mono ?_; rintro e w' ⟨rfl, rfl⟩)
  go_ret3
  exact ⟨rfl, rfl⟩

theorem get_o3 (b off len cap : Nat) (x0 x1 x2 : Int) (w : World) (hlen : len ≤ maxLen) (hl : 2 < len) (c0 : w.cell? ⟨b, off, none⟩ = some (.int .u8 x0)) (r0 : 0 ≤ x0 ∧ x0 ≤ 255) (c1 : w.cell? ⟨b, off + 1, none⟩ = some (.int .u8 x1)) (r1 : 0 ≤ x1 ∧ x1 ≤ 255) (c2 : w.cell? ⟨b, off + 2, none⟩ = some (.int .u8 x2)) (g0 : 128 ≤ x0) (g1 : 128 ≤ x1) (p0 : 1 ≤ x2) (p1 : x2 < 128) :
    Calls Tryd.prog 34 #[.slice (some ⟨b, off, none⟩) len cap] w fun e w' => e = .returned (.tuple #[.int .i64 ((x0 - 128) + (x1 - 128) * 128 + x2 * 16384), .int .i64 3, .nilIface]) ∧ w' = w := by
  have HM := hide (meas_o3 b off len cap x0 x1 x2 w hlen hl c0 r0 c1 r1 c2 g0 g1 p0 p1)
  unfold maxLen at hlen
  have k0 := and127_hi x0 g0 r0.2
  have k1 := and127_hi x1 g1 r1.2
  have k2 := and127_lo x2 (by omega) p1
  go_enter Tryd.func34, Tryd.ntmps34
  go_wp2_with (go_at_call 49; refine (unhide HM).mono ?_; rintro e w' ⟨rfl, rfl⟩)
  go_ret3
  refine ⟨congrArg (fun z : Int => Ending.returned (.tuple #[.int .i64 z, .int .i64 3, .nilIface])) ?_, rfl⟩
  rw [or_zero (x2 * 16384) (by omega) (by omega), or_hi 14 (x2 * 16384) ((x1 - 128) * 128) (by omega) (by omega) (by omega) (by omega) (by omega) (by omega), or_hi 7 (x2 * 16384 + (x1 - 128) * 128) ((x0 - 128)) (by omega) (by omega) (by omega) (by omega) (by omega) (by omega)]
  omega

theorem get_s3 (b off len cap : Nat) (x0 x1 x2 : Int) (w : World) (hlen : len ≤ maxLen) (hl : len = 3) (c0 : w.cell? ⟨b, off, none⟩ = some (.int .u8 x0)) (r0 : 0 ≤ x0 ∧ x0 ≤ 255) (c1 : w.cell? ⟨b, off + 1, none⟩ = some (.int .u8 x1)) (r1 : 0 ≤ x1 ∧ x1 ≤ 255) (c2 : w.cell? ⟨b, off + 2, none⟩ = some (.int .u8 x2)) (r2 : 0 ≤ x2 ∧ x2 ≤ 255) (g0 : 128 ≤ x0) (g1 : 128 ≤ x1) (g2 : 128 ≤ x2) :
    Calls Tryd.prog 34 #[.slice (some ⟨b, off, none⟩) len cap] w fun e w' => e = .returned (.tuple #[.int .i64 0, .int .i64 0, .iface 79 (.pointer (some ⟨w.heap.size, 0, none⟩))]) ∧ w' = w.alloc (.cells #[.string ⟨#[118, 97, 114, 105, 110, 116]⟩, .iface 65 (.int .i64 3)] 81) := by
  have HM := hide (meas_s3 b off len cap x0 x1 x2 w hlen hl c0 r0 c1 r1 c2 r2 g0 g1 g2)
  unfold maxLen at hlen
  subst hl
  go_enter Tryd.func34, Tryd.ntmps34
  go_wp2_with (go_at_call 49; refine (unhide HM).mono ?_; rintro e w' ⟨rfl, rfl⟩)
  go_ret3
  exact ⟨rfl, rfl⟩

theorem get_z4 (b off len cap : Nat) (x0 x1 x2 x3 : Int) (w : World) (hlen : len ≤ maxLen) (hl : 3 < len) (c0 : w.cell? ⟨b, off, none⟩ = some (.int .u8 x0)) (r0 : 0 ≤ x0 ∧ x0 ≤ 255) (c1 : w.cell? ⟨b, off + 1, none⟩ = some (.int .u8 x1)) (r1 : 0 ≤ x1 ∧ x1 ≤ 255) (c2 : w.cell? ⟨b, off + 2, none⟩ = some (.int .u8 x2)) (r2 : 0 ≤ x2 ∧ x2 ≤ 255) (c3 : w.cell? ⟨b, off + 3, none⟩ = some (.int .u8 x3)) (g0 : 128 ≤ x0) (g1 : 128 ≤ x1) (g2 : 128 ≤ x2) (p0 : x3 = 0) :
    Calls Tryd.prog 34 #[.slice (some ⟨b, off, none⟩) len cap] w fun e w' => e = .returned (.tuple #[.int .i64 0, .int .i64 0, .iface 79 (.pointer (some ⟨w.heap.size, 0, none⟩))]) ∧ w' = w.alloc (.cells #[.string ⟨#[118, 97, 114, 105, 110, 116]⟩, .iface 65 (.int .i64 1)] 81) := by
  have HM := hide (meas_z4 b off len cap x0 x1 x2 x3 w hlen hl c0 r0 c1 r1 c2 r2 c3 g0 g1 g2 p0)
  unfold maxLen at hlen
  subst p0
  go_enter Tryd.func34, Tryd.ntmps34
  go_wp2_with (go_at_call 49; refine (unhide HM).mono ?_; rintro e w' ⟨rfl, rfl⟩)
  go_ret3
  exact ⟨rfl, rfl⟩

theorem get_o4 (b off len cap : Nat) (x0 x1 x2 x3 : Int) (w : World) (hlen : len ≤ maxLen) (hl : 3 < len) (c0 : w.cell? ⟨b, off, none⟩ = some (.int .u8 x0)) (r0 : 0 ≤ x0 ∧ x0 ≤ 255) (c1 : w.cell? ⟨b, off + 1, none⟩ = some (.int .u8 x1)) (r1 : 0 ≤ x1 ∧ x1 ≤ 255) (c2 : w.cell? ⟨b, off + 2, none⟩ = some (.int .u8 x2)) (r2 : 0 ≤ x2 ∧ x2 ≤ 255) (c3 : w.cell? ⟨b, off + 3, none⟩ = some (.int .u8 x3)) (g0 : 128 ≤ x0) (g1 : 128 ≤ x1) (g2 : 128 ≤ x2) (p0 : 1 ≤ x3) (p1 : x3 < 128) :
    Calls Tryd.prog 34 #[.slice (some ⟨b, off, none⟩) len cap] w fun e w' => e = .returned (.tuple #[.int .i64 ((x0 - 128) + (x1 - 128) * 128 + (x2 - 128) * 16384 + x3 * 2097152), .int .i64 4, .nilIface]) ∧ w' = w := by
  have HM := hide (meas_o4 b off len cap x0 x1 x2 x3 w hlen hl c0 r0 c1 r1 c2 r2 c3 g0 g1 g2 p0 p1)
  unfold maxLen at hlen
  have k0 := and127_hi x0 g0 r0.2
  have k1 := and127_hi x1 g1 r1.2
  have k2 := and127_hi x2 g2 r2.2
  have k3 := and127_lo x3 (by omega) p1
  go_enter Tryd.func34, Tryd.ntmps34
  go_wp2_with (go_at_call 49; refine (unhide HM).mono ?_; rintro e w' ⟨rfl, rfl⟩)
  go_ret3
  refine ⟨congrArg (fun z : Int => Ending.returned (.tuple #[.int .i64 z, .int .i64 4, .nilIface])) ?_, rfl⟩
  rw [or_zero (x3 * 2097152) (by omega) (by omega), or_hi 21 (x3 * 2097152) ((x2 - 128) * 16384) (by omega) (by omega) (by omega) (by omega) (by omega) (by omega), or_hi 14 (x3 * 2097152 + (x2 - 128) * 16384) ((x1 - 128) * 128) (by omega) (by omega) (by omega) (by omega) (by omega) (by omega), or_hi 7 (x3 * 2097152 + (x2 - 128) * 16384 + (x1 - 128) * 128) ((x0 - 128)) (by omega) (by omega) (by omega) (by omega) (by omega) (by omega)]
  omega

theorem get_l4 (b off len cap : Nat) (x0 x1 x2 x3 : Int) (w : World) (hlen : len ≤ maxLen) (hl : 3 < len) (c0 : w.cell? ⟨b, off, none⟩ = some (.int .u8 x0)) (r0 : 0 ≤ x0 ∧ x0 ≤ 255) (c1 : w.cell? ⟨b, off + 1, none⟩ = some (.int .u8 x1)) (r1 : 0 ≤ x1 ∧ x1 ≤ 255) (c2 : w.cell? ⟨b, off + 2, none⟩ = some (.int .u8 x2)) (r2 : 0 ≤ x2 ∧ x2 ≤ 255) (c3 : w.cell? ⟨b, off + 3, none⟩ = some (.int .u8 x3)) (r3 : 0 ≤ x3 ∧ x3 ≤ 255) (g0 : 128 ≤ x0) (g1 : 128 ≤ x1) (g2 : 128 ≤ x2) (g3 : 128 ≤ x3) :
    Calls Tryd.prog 34 #[.slice (some ⟨b, off, none⟩) len cap] w fun e w' => e = .returned (.tuple #[.int .i64 0, .int .i64 0, .iface 79 (.pointer (some ⟨w.heap.size, 0, none⟩))]) ∧ w' = w.alloc (.cells #[.string ⟨#[118, 97, 114, 105, 110, 116]⟩, .iface 65 (.int .i64 1)] 81) := by
  have HM := hide (meas_l4 b off len cap x0 x1 x2 x3 w hlen hl c0 r0 c1 r1 c2 r2 c3 r3 g0 g1 g2 g3)
  unfold maxLen at hlen
  go_enter Tryd.func34, Tryd.ntmps34
  go_wp2_with (go_at_call 49; refine (unhide HM).mono ?_; rintro e w' ⟨rfl, rfl⟩)
  go_ret3
  exact ⟨rfl, rfl⟩

theorem sz1 (n : Int) (h : n < 128) : sz n = 1 := by simp [sz, h]
theorem sz2 (n : Int) (h0 : 128 ≤ n) (h : n < 16384) : sz n = 2 := by unfold sz; rw [if_neg (by omega), if_pos h]
theorem sz3 (n : Int) (h0 : 16384 ≤ n) (h : n < 2097152) : sz n = 3 := by unfold sz; rw [if_neg (by omega), if_neg (by omega), if_pos h]
theorem sz4 (n : Int) (h0 : 2097152 ≤ n) : sz n = 4 := by unfold sz; rw [if_neg (by omega), if_neg (by omega), if_neg (by omega)]
theorem szle1 (n : Int) (h : n < 128) : sz n ≤ 1 := by unfold sz; rw [if_pos h]; omega
theorem szle2 (n : Int) (h : n < 16384) : sz n ≤ 2 := by unfold sz; split <;> (try split) <;> omega
theorem szle3 (n : Int) (h : n < 2097152) : sz n ≤ 3 := by unfold sz; split <;> (try split) <;> (try split) <;> omega
theorem put_length (n : Int) : ((put n).length : Int) = sz n := by
  unfold put sz
  split <;> (try split) <;> (try split) <;> simp

theorem rput_len (n : Int) (w : World) (h0 : 0 ≤ n) (h1 : n ≤ 268435455) :
    Calls Tryd.prog 28 #[.int .i64 n] w fun e w' => ∃ (ao : Option Addr) (L cap : Nat), Hid ((L : Int) = sz n) ∧ e = .returned (.slice ao L cap) ∧ Below w.heap.size w w' := by
  refine (rput_any n w h0 h1).mono ?_
  rintro e w' ⟨v, rfl, hown, hb⟩
  rcases hown.2 with ⟨rfl, hn⟩ | ⟨g, cap, cur, rfl, _⟩
  · have := put_len n; omega
  · exact ⟨_, _, _, put_length n, rfl, hb⟩

set_option maxHeartbeats 1000000 in
theorem rget_s0 (ao : Option Addr) (cap : Nat) (w : World) :
    Calls Tryd.prog 37 #[.slice ao 0 cap] w fun e w' => e = .returned (.tuple #[.int .i64 0, .int .i64 0, .int .i64 3]) ∧ Below w.heap.size w w' := by
  go_enter Tryd.func37, Tryd.ntmps37
  go_wp2
  refine wp_loop_rounds 1 ?_
  rw [rounds_succ]
  go_wp2
  go_ret3
  exact ⟨rfl, Below.refl _ _⟩

set_option maxHeartbeats 1000000 in
theorem rget_o1 (b off len cap : Nat) (x0 : Int) (w : World) (hlen : len ≤ maxLen) (hl : 0 < len) (c0 : w.cell? ⟨b, off, none⟩ = some (.int .u8 x0)) (p0 : 0 ≤ x0) (p1 : x0 < 128) :
    Calls Tryd.prog 37 #[.slice (some ⟨b, off, none⟩) len cap] w fun e w' => e = .returned (.tuple #[.int .i64 (x0), .int .i64 1, .int .i64 0]) ∧ Below w.heap.size w w' := by
  unfold maxLen at hlen
  have m0 : x0 % 128 = x0 := by omega
  have q0 : bits .or .i64 0 (x0) = x0 := or_zero _ (by omega) (by omega)
  go_enter Tryd.func37, Tryd.ntmps37
  go_wp2
  refine wp_loop_rounds 1 ?_
  rw [rounds_succ]
  go_wp2_with fail
  refine (rput_len (x0) _ (by omega) (by omega)).mono ?_
  rintro e w1 ⟨ao, L, cap', hL, rfl, hb⟩
  obtain rfl : L = 1 := by have h1 := unhide hL; rw [sz1 _ (by omega)] at h1; omega
  go_wp2
  go_ret3
  exact ⟨rfl, hb⟩

set_option maxHeartbeats 1000000 in
theorem rget_s1 (b off len cap : Nat) (x0 : Int) (w : World) (hlen : len ≤ maxLen) (hl : len = 1) (c0 : w.cell? ⟨b, off, none⟩ = some (.int .u8 x0)) (r0 : 0 ≤ x0 ∧ x0 ≤ 255) (g0 : 128 ≤ x0) :
    Calls Tryd.prog 37 #[.slice (some ⟨b, off, none⟩) len cap] w fun e w' => e = .returned (.tuple #[.int .i64 0, .int .i64 0, .int .i64 3]) ∧ Below w.heap.size w w' := by
  unfold maxLen at hlen
  subst hl
  have m0 : x0 % 128 = (x0 - 128) := by omega
  have q0 : bits .or .i64 0 ((x0 - 128)) = (x0 - 128) := or_zero _ (by omega) (by omega)
  go_enter Tryd.func37, Tryd.ntmps37
  go_wp2
  refine wp_loop_rounds 2 ?_
  rw [rounds_succ]
  go_wp2
  rw [rounds_succ]
  go_wp2
  go_ret3
  exact ⟨rfl, Below.refl _ _⟩

set_option maxHeartbeats 1000000 in
theorem rget_z2 (b off len cap : Nat) (x0 x1 : Int) (w : World) (hlen : len ≤ maxLen) (hl : 1 < len) (c0 : w.cell? ⟨b, off, none⟩ = some (.int .u8 x0)) (r0 : 0 ≤ x0 ∧ x0 ≤ 255) (c1 : w.cell? ⟨b, off + 1, none⟩ = some (.int .u8 x1)) (g0 : 128 ≤ x0) (p0 : x1 = 0) :
    Calls Tryd.prog 37 #[.slice (some ⟨b, off, none⟩) len cap] w fun e w' => e = .returned (.tuple #[.int .i64 0, .int .i64 0, .int .i64 1]) ∧ Below w.heap.size w w' := by
  unfold maxLen at hlen
  subst p0
  have m0 : x0 % 128 = (x0 - 128) := by omega
  have q0 : bits .or .i64 0 ((x0 - 128)) = (x0 - 128) := or_zero _ (by omega) (by omega)

  have q1 : bits .or .i64 ((x0 - 128)) 0 = (x0 - 128) := by rw [or_lo 7 ((x0 - 128)) 0 (by omega) (by omega) (by omega) (by omega) (by omega) (by omega)]; omega
  go_enter Tryd.func37, Tryd.ntmps37
  go_wp2
  refine wp_loop_rounds 2 ?_
  rw [rounds_succ]
  go_wp2
  rw [rounds_succ]
  go_wp2_with fail
  refine (rput_len ((x0 - 128)) _ (by omega) (by omega)).mono ?_
  rintro e w1 ⟨ao, L, cap', hL, rfl, hb⟩
  have hLL : L ≤ 1 := by have h1 := unhide hL; have h2 := szle1 ((x0 - 128)) (by omega); omega
  go_wp2
  go_ret3
  exact ⟨rfl, hb⟩

set_option maxHeartbeats 1000000 in
theorem rget_o2 (b off len cap : Nat) (x0 x1 : Int) (w : World) (hlen : len ≤ maxLen) (hl : 1 < len) (c0 : w.cell? ⟨b, off, none⟩ = some (.int .u8 x0)) (r0 : 0 ≤ x0 ∧ x0 ≤ 255) (c1 : w.cell? ⟨b, off + 1, none⟩ = some (.int .u8 x1)) (g0 : 128 ≤ x0) (p0 : 1 ≤ x1) (p1 : x1 < 128) :
    Calls Tryd.prog 37 #[.slice (some ⟨b, off, none⟩) len cap] w fun e w' => e = .returned (.tuple #[.int .i64 ((x0 - 128) + x1 * 128), .int .i64 2, .int .i64 0]) ∧ Below w.heap.size w w' := by
  unfold maxLen at hlen
  have m0 : x0 % 128 = (x0 - 128) := by omega
  have q0 : bits .or .i64 0 ((x0 - 128)) = (x0 - 128) := or_zero _ (by omega) (by omega)
  have m1 : x1 % 128 = x1 := by omega
  have q1 : bits .or .i64 ((x0 - 128)) (x1 * 128) = (x0 - 128) + x1 * 128 := or_lo 7 _ _ (by omega) (by omega) (by omega) (by omega) (by omega) (by omega)
  go_enter Tryd.func37, Tryd.ntmps37
  go_wp2
  refine wp_loop_rounds 2 ?_
  rw [rounds_succ]
  go_wp2
  rw [rounds_succ]
  go_wp2_with fail
  refine (rput_len ((x0 - 128) + x1 * 128) _ (by omega) (by omega)).mono ?_
  rintro e w1 ⟨ao, L, cap', hL, rfl, hb⟩
  obtain rfl : L = 2 := by have h1 := unhide hL; rw [sz2 _ (by omega) (by omega)] at h1; omega
  go_wp2
  go_ret3
  exact ⟨rfl, hb⟩

set_option maxHeartbeats 1000000 in
theorem rget_s2 (b off len cap : Nat) (x0 x1 : Int) (w : World) (hlen : len ≤ maxLen) (hl : len = 2) (c0 : w.cell? ⟨b, off, none⟩ = some (.int .u8 x0)) (r0 : 0 ≤ x0 ∧ x0 ≤ 255) (c1 : w.cell? ⟨b, off + 1, none⟩ = some (.int .u8 x1)) (r1 : 0 ≤ x1 ∧ x1 ≤ 255) (g0 : 128 ≤ x0) (g1 : 128 ≤ x1) :
    Calls Tryd.prog 37 #[.slice (some ⟨b, off, none⟩) len cap] w fun e w' => e = .returned (.tuple #[.int .i64 0, .int .i64 0, .int .i64 3]) ∧ Below w.heap.size w w' := by
  unfold maxLen at hlen
  subst hl
  have m0 : x0 % 128 = (x0 - 128) := by omega
  have q0 : bits .or .i64 0 ((x0 - 128)) = (x0 - 128) := or_zero _ (by omega) (by omega)
  have m1 : x1 % 128 = (x1 - 128) := by omega
  have q1 : bits .or .i64 ((x0 - 128)) ((x1 - 128) * 128) = (x0 - 128) + (x1 - 128) * 128 := or_lo 7 _ _ (by omega) (by omega) (by omega) (by omega) (by omega) (by omega)
  go_enter Tryd.func37, Tryd.ntmps37
  go_wp2
  refine wp_loop_rounds 3 ?_
  rw [rounds_succ]
  go_wp2
  rw [rounds_succ]
  go_wp2
  rw [rounds_succ]
  go_wp2
  go_ret3
  exact ⟨rfl, Below.refl _ _⟩

set_option maxHeartbeats 1000000 in
theorem rget_z3 (b off len cap : Nat) (x0 x1 x2 : Int) (w : World) (hlen : len ≤ maxLen) (hl : 2 < len) (c0 : w.cell? ⟨b, off, none⟩ = some (.int .u8 x0)) (r0 : 0 ≤ x0 ∧ x0 ≤ 255) (c1 : w.cell? ⟨b, off + 1, none⟩ = some (.int .u8 x1)) (r1 : 0 ≤ x1 ∧ x1 ≤ 255) (c2 : w.cell? ⟨b, off + 2, none⟩ = some (.int .u8 x2)) (g0 : 128 ≤ x0) (g1 : 128 ≤ x1) (p0 : x2 = 0) :
    Calls Tryd.prog 37 #[.slice (some ⟨b, off, none⟩) len cap] w fun e w' => e = .returned (.tuple #[.int .i64 0, .int .i64 0, .int .i64 1]) ∧ Below w.heap.size w w' := by
  unfold maxLen at hlen
  subst p0
  have m0 : x0 % 128 = (x0 - 128) := by omega
  have q0 : bits .or .i64 0 ((x0 - 128)) = (x0 - 128) := or_zero _ (by omega) (by omega)
  have m1 : x1 % 128 = (x1 - 128) := by omega
  have q1 : bits .or .i64 ((x0 - 128)) ((x1 - 128) * 128) = (x0 - 128) + (x1 - 128) * 128 := or_lo 7 _ _ (by omega) (by omega) (by omega) (by omega) (by omega) (by omega)

  have q2 : bits .or .i64 ((x0 - 128) + (x1 - 128) * 128) 0 = (x0 - 128) + (x1 - 128) * 128 := by rw [or_lo 14 ((x0 - 128) + (x1 - 128) * 128) 0 (by omega) (by omega) (by omega) (by omega) (by omega) (by omega)]; omega
  go_enter Tryd.func37, Tryd.ntmps37
  go_wp2
  refine wp_loop_rounds 3 ?_
  rw [rounds_succ]
  go_wp2
  rw [rounds_succ]
  go_wp2
  rw [rounds_succ]
  go_wp2_with fail
  refine (rput_len ((x0 - 128) + (x1 - 128) * 128) _ (by omega) (by omega)).mono ?_
  rintro e w1 ⟨ao, L, cap', hL, rfl, hb⟩
  have hLL : L ≤ 2 := by have h1 := unhide hL; have h2 := szle2 ((x0 - 128) + (x1 - 128) * 128) (by omega); omega
  go_wp2
  go_ret3
  exact ⟨rfl, hb⟩

set_option maxHeartbeats 1000000 in
theorem rget_o3 (b off len cap : Nat) (x0 x1 x2 : Int) (w : World) (hlen : len ≤ maxLen) (hl : 2 < len) (c0 : w.cell? ⟨b, off, none⟩ = some (.int .u8 x0)) (r0 : 0 ≤ x0 ∧ x0 ≤ 255) (c1 : w.cell? ⟨b, off + 1, none⟩ = some (.int .u8 x1)) (r1 : 0 ≤ x1 ∧ x1 ≤ 255) (c2 : w.cell? ⟨b, off + 2, none⟩ = some (.int .u8 x2)) (g0 : 128 ≤ x0) (g1 : 128 ≤ x1) (p0 : 1 ≤ x2) (p1 : x2 < 128) :
    Calls Tryd.prog 37 #[.slice (some ⟨b, off, none⟩) len cap] w fun e w' => e = .returned (.tuple #[.int .i64 ((x0 - 128) + (x1 - 128) * 128 + x2 * 16384), .int .i64 3, .int .i64 0]) ∧ Below w.heap.size w w' := by
  unfold maxLen at hlen
  have m0 : x0 % 128 = (x0 - 128) := by omega
  have q0 : bits .or .i64 0 ((x0 - 128)) = (x0 - 128) := or_zero _ (by omega) (by omega)
  have m1 : x1 % 128 = (x1 - 128) := by omega
  have q1 : bits .or .i64 ((x0 - 128)) ((x1 - 128) * 128) = (x0 - 128) + (x1 - 128) * 128 := or_lo 7 _ _ (by omega) (by omega) (by omega) (by omega) (by omega) (by omega)
  have m2 : x2 % 128 = x2 := by omega
  have q2 : bits .or .i64 ((x0 - 128) + (x1 - 128) * 128) (x2 * 16384) = (x0 - 128) + (x1 - 128) * 128 + x2 * 16384 := or_lo 14 _ _ (by omega) (by omega) (by omega) (by omega) (by omega) (by omega)
  go_enter Tryd.func37, Tryd.ntmps37
  go_wp2
  refine wp_loop_rounds 3 ?_
  rw [rounds_succ]
  go_wp2
  rw [rounds_succ]
  go_wp2
  rw [rounds_succ]
  go_wp2_with fail
  refine (rput_len ((x0 - 128) + (x1 - 128) * 128 + x2 * 16384) _ (by omega) (by omega)).mono ?_
  rintro e w1 ⟨ao, L, cap', hL, rfl, hb⟩
  obtain rfl : L = 3 := by have h1 := unhide hL; rw [sz3 _ (by omega) (by omega)] at h1; omega
  go_wp2
  go_ret3
  exact ⟨rfl, hb⟩

set_option maxHeartbeats 1000000 in
theorem rget_s3 (b off len cap : Nat) (x0 x1 x2 : Int) (w : World) (hlen : len ≤ maxLen) (hl : len = 3) (c0 : w.cell? ⟨b, off, none⟩ = some (.int .u8 x0)) (r0 : 0 ≤ x0 ∧ x0 ≤ 255) (c1 : w.cell? ⟨b, off + 1, none⟩ = some (.int .u8 x1)) (r1 : 0 ≤ x1 ∧ x1 ≤ 255) (c2 : w.cell? ⟨b, off + 2, none⟩ = some (.int .u8 x2)) (r2 : 0 ≤ x2 ∧ x2 ≤ 255) (g0 : 128 ≤ x0) (g1 : 128 ≤ x1) (g2 : 128 ≤ x2) :
    Calls Tryd.prog 37 #[.slice (some ⟨b, off, none⟩) len cap] w fun e w' => e = .returned (.tuple #[.int .i64 0, .int .i64 0, .int .i64 3]) ∧ Below w.heap.size w w' := by
  unfold maxLen at hlen
  subst hl
  have m0 : x0 % 128 = (x0 - 128) := by omega
  have q0 : bits .or .i64 0 ((x0 - 128)) = (x0 - 128) := or_zero _ (by omega) (by omega)
  have m1 : x1 % 128 = (x1 - 128) := by omega
  have q1 : bits .or .i64 ((x0 - 128)) ((x1 - 128) * 128) = (x0 - 128) + (x1 - 128) * 128 := or_lo 7 _ _ (by omega) (by omega) (by omega) (by omega) (by omega) (by omega)
  have m2 : x2 % 128 = (x2 - 128) := by omega
  have q2 : bits .or .i64 ((x0 - 128) + (x1 - 128) * 128) ((x2 - 128) * 16384) = (x0 - 128) + (x1 - 128) * 128 + (x2 - 128) * 16384 := or_lo 14 _ _ (by omega) (by omega) (by omega) (by omega) (by omega) (by omega)
  go_enter Tryd.func37, Tryd.ntmps37
  go_wp2
  refine wp_loop_rounds 4 ?_
  rw [rounds_succ]
  go_wp2
  rw [rounds_succ]
  go_wp2
  rw [rounds_succ]
  go_wp2
  rw [rounds_succ]
  go_wp2
  go_ret3
  exact ⟨rfl, Below.refl _ _⟩

set_option maxHeartbeats 1000000 in
theorem rget_z4 (b off len cap : Nat) (x0 x1 x2 x3 : Int) (w : World) (hlen : len ≤ maxLen) (hl : 3 < len) (c0 : w.cell? ⟨b, off, none⟩ = some (.int .u8 x0)) (r0 : 0 ≤ x0 ∧ x0 ≤ 255) (c1 : w.cell? ⟨b, off + 1, none⟩ = some (.int .u8 x1)) (r1 : 0 ≤ x1 ∧ x1 ≤ 255) (c2 : w.cell? ⟨b, off + 2, none⟩ = some (.int .u8 x2)) (r2 : 0 ≤ x2 ∧ x2 ≤ 255) (c3 : w.cell? ⟨b, off + 3, none⟩ = some (.int .u8 x3)) (g0 : 128 ≤ x0) (g1 : 128 ≤ x1) (g2 : 128 ≤ x2) (p0 : x3 = 0) :
    Calls Tryd.prog 37 #[.slice (some ⟨b, off, none⟩) len cap] w fun e w' => e = .returned (.tuple #[.int .i64 0, .int .i64 0, .int .i64 1]) ∧ Below w.heap.size w w' := by
  unfold maxLen at hlen
  subst p0
  have m0 : x0 % 128 = (x0 - 128) := by omega
  have q0 : bits .or .i64 0 ((x0 - 128)) = (x0 - 128) := or_zero _ (by omega) (by omega)
  have m1 : x1 % 128 = (x1 - 128) := by omega
  have q1 : bits .or .i64 ((x0 - 128)) ((x1 - 128) * 128) = (x0 - 128) + (x1 - 128) * 128 := or_lo 7 _ _ (by omega) (by omega) (by omega) (by omega) (by omega) (by omega)
  have m2 : x2 % 128 = (x2 - 128) := by omega
  have q2 : bits .or .i64 ((x0 - 128) + (x1 - 128) * 128) ((x2 - 128) * 16384) = (x0 - 128) + (x1 - 128) * 128 + (x2 - 128) * 16384 := or_lo 14 _ _ (by omega) (by omega) (by omega) (by omega) (by omega) (by omega)

  have q3 : bits .or .i64 ((x0 - 128) + (x1 - 128) * 128 + (x2 - 128) * 16384) 0 = (x0 - 128) + (x1 - 128) * 128 + (x2 - 128) * 16384 := by rw [or_lo 21 ((x0 - 128) + (x1 - 128) * 128 + (x2 - 128) * 16384) 0 (by omega) (by omega) (by omega) (by omega) (by omega) (by omega)]; omega
  go_enter Tryd.func37, Tryd.ntmps37
  go_wp2
  refine wp_loop_rounds 4 ?_
  rw [rounds_succ]
  go_wp2
  rw [rounds_succ]
  go_wp2
  rw [rounds_succ]
  go_wp2
  rw [rounds_succ]
  go_wp2_with fail
  refine (rput_len ((x0 - 128) + (x1 - 128) * 128 + (x2 - 128) * 16384) _ (by omega) (by omega)).mono ?_
  rintro e w1 ⟨ao, L, cap', hL, rfl, hb⟩
  have hLL : L ≤ 3 := by have h1 := unhide hL; have h2 := szle3 ((x0 - 128) + (x1 - 128) * 128 + (x2 - 128) * 16384) (by omega); omega
  go_wp2
  go_ret3
  exact ⟨rfl, hb⟩

set_option maxHeartbeats 1000000 in
theorem rget_o4 (b off len cap : Nat) (x0 x1 x2 x3 : Int) (w : World) (hlen : len ≤ maxLen) (hl : 3 < len) (c0 : w.cell? ⟨b, off, none⟩ = some (.int .u8 x0)) (r0 : 0 ≤ x0 ∧ x0 ≤ 255) (c1 : w.cell? ⟨b, off + 1, none⟩ = some (.int .u8 x1)) (r1 : 0 ≤ x1 ∧ x1 ≤ 255) (c2 : w.cell? ⟨b, off + 2, none⟩ = some (.int .u8 x2)) (r2 : 0 ≤ x2 ∧ x2 ≤ 255) (c3 : w.cell? ⟨b, off + 3, none⟩ = some (.int .u8 x3)) (g0 : 128 ≤ x0) (g1 : 128 ≤ x1) (g2 : 128 ≤ x2) (p0 : 1 ≤ x3) (p1 : x3 < 128) :
    Calls Tryd.prog 37 #[.slice (some ⟨b, off, none⟩) len cap] w fun e w' => e = .returned (.tuple #[.int .i64 ((x0 - 128) + (x1 - 128) * 128 + (x2 - 128) * 16384 + x3 * 2097152), .int .i64 4, .int .i64 0]) ∧ Below w.heap.size w w' := by
  unfold maxLen at hlen
  have m0 : x0 % 128 = (x0 - 128) := by omega
  have q0 : bits .or .i64 0 ((x0 - 128)) = (x0 - 128) := or_zero _ (by omega) (by omega)
  have m1 : x1 % 128 = (x1 - 128) := by omega
  have q1 : bits .or .i64 ((x0 - 128)) ((x1 - 128) * 128) = (x0 - 128) + (x1 - 128) * 128 := or_lo 7 _ _ (by omega) (by omega) (by omega) (by omega) (by omega) (by omega)
  have m2 : x2 % 128 = (x2 - 128) := by omega
  have q2 : bits .or .i64 ((x0 - 128) + (x1 - 128) * 128) ((x2 - 128) * 16384) = (x0 - 128) + (x1 - 128) * 128 + (x2 - 128) * 16384 := or_lo 14 _ _ (by omega) (by omega) (by omega) (by omega) (by omega) (by omega)
  have m3 : x3 % 128 = x3 := by omega
  have q3 : bits .or .i64 ((x0 - 128) + (x1 - 128) * 128 + (x2 - 128) * 16384) (x3 * 2097152) = (x0 - 128) + (x1 - 128) * 128 + (x2 - 128) * 16384 + x3 * 2097152 := or_lo 21 _ _ (by omega) (by omega) (by omega) (by omega) (by omega) (by omega)
  go_enter Tryd.func37, Tryd.ntmps37
  go_wp2
  refine wp_loop_rounds 4 ?_
  rw [rounds_succ]
  go_wp2
  rw [rounds_succ]
  go_wp2
  rw [rounds_succ]
  go_wp2
  rw [rounds_succ]
  go_wp2_with fail
  refine (rput_len ((x0 - 128) + (x1 - 128) * 128 + (x2 - 128) * 16384 + x3 * 2097152) _ (by omega) (by omega)).mono ?_
  rintro e w1 ⟨ao, L, cap', hL, rfl, hb⟩
  obtain rfl : L = 4 := by have h1 := unhide hL; rw [sz4 _ (by omega)] at h1; omega
  go_wp2
  go_ret3
  exact ⟨rfl, hb⟩

set_option maxHeartbeats 1000000 in
theorem rget_l4 (b off len cap : Nat) (x0 x1 x2 x3 : Int) (w : World) (hlen : len ≤ maxLen) (hl : 3 < len) (c0 : w.cell? ⟨b, off, none⟩ = some (.int .u8 x0)) (r0 : 0 ≤ x0 ∧ x0 ≤ 255) (c1 : w.cell? ⟨b, off + 1, none⟩ = some (.int .u8 x1)) (r1 : 0 ≤ x1 ∧ x1 ≤ 255) (c2 : w.cell? ⟨b, off + 2, none⟩ = some (.int .u8 x2)) (r2 : 0 ≤ x2 ∧ x2 ≤ 255) (c3 : w.cell? ⟨b, off + 3, none⟩ = some (.int .u8 x3)) (r3 : 0 ≤ x3 ∧ x3 ≤ 255) (g0 : 128 ≤ x0) (g1 : 128 ≤ x1) (g2 : 128 ≤ x2) (g3 : 128 ≤ x3) :
    Calls Tryd.prog 37 #[.slice (some ⟨b, off, none⟩) len cap] w fun e w' => e = .returned (.tuple #[.int .i64 0, .int .i64 0, .int .i64 1]) ∧ Below w.heap.size w w' := by
  unfold maxLen at hlen
  have m0 : x0 % 128 = (x0 - 128) := by omega
  have q0 : bits .or .i64 0 ((x0 - 128)) = (x0 - 128) := or_zero _ (by omega) (by omega)
  have m1 : x1 % 128 = (x1 - 128) := by omega
  have q1 : bits .or .i64 ((x0 - 128)) ((x1 - 128) * 128) = (x0 - 128) + (x1 - 128) * 128 := or_lo 7 _ _ (by omega) (by omega) (by omega) (by omega) (by omega) (by omega)
  have m2 : x2 % 128 = (x2 - 128) := by omega
  have q2 : bits .or .i64 ((x0 - 128) + (x1 - 128) * 128) ((x2 - 128) * 16384) = (x0 - 128) + (x1 - 128) * 128 + (x2 - 128) * 16384 := or_lo 14 _ _ (by omega) (by omega) (by omega) (by omega) (by omega) (by omega)
  have m3 : x3 % 128 = (x3 - 128) := by omega
  have q3 : bits .or .i64 ((x0 - 128) + (x1 - 128) * 128 + (x2 - 128) * 16384) ((x3 - 128) * 2097152) = (x0 - 128) + (x1 - 128) * 128 + (x2 - 128) * 16384 + (x3 - 128) * 2097152 := or_lo 21 _ _ (by omega) (by omega) (by omega) (by omega) (by omega) (by omega)
  go_enter Tryd.func37, Tryd.ntmps37
  go_wp2
  refine wp_loop_rounds 5 ?_
  rw [rounds_succ]
  go_wp2
  rw [rounds_succ]
  go_wp2
  rw [rounds_succ]
  go_wp2
  rw [rounds_succ]
  go_wp2
  rw [rounds_succ]
  go_wp2
  go_ret3
  exact ⟨rfl, Below.refl _ _⟩

end Go.Proofs.YtpfpollejhdbgaaDoor.V
/- Proved here: prop.getNumber reads a number of one, two or four bytes, the highest first, or tells that they are not there. Helper contracts. -/
namespace Go.Proofs.YtpfpollejhdbgaaDoor
open Go.RowKit
set_option maxRecDepth 100000

/-- the number of the first k bytes, the highest first -/
def be (k : Int) (l : List Int) : Int := if k = 1 then l.getD 0 0 else if k = 2 then l.getD 0 0 * 256 + l.getD 1 0 else ((l.getD 0 0 * 256 + l.getD 1 0) * 256 + l.getD 2 0) * 256 + l.getD 3 0
theorem or_256 (x y : Int) (hx0 : 0 ≤ x) (hx1 : x < 16777216) (hy0 : 0 ≤ y) (hy1 : y ≤ 255) : bits .or .i64 (x * 256) y = x * 256 + y := V.or_hi 8 _ _ (by omega) (by omega) hy0 (by omega) (by omega) (by omega)
theorem gnum_short (ao : Option Addr) (len cap : Nat) (k : Int) (w : World) (hl : (len : Int) < k) : Calls Tryd.prog 78 #[.slice ao len cap, .int .i64 k] w fun e w' => e = .returned (.tuple #[.int .i64 0, .int .i64 0, .iface 65 (.int .i64 3)]) ∧ w' = w := by
  go_enter Tryd.func78, Tryd.ntmps78
  go_wp2
  go_ret3
  exact ⟨rfl, rfl⟩
theorem gnum_1 (b off len cap : Nat) (x0 : Int) (w : World) (hl : 1 ≤ len) (hcap : len ≤ cap) (hcm : cap ≤ maxLen) (c0 : w.cell? ⟨b, off, none⟩ = some (.int .u8 x0)) (r0 : 0 ≤ x0 ∧ x0 ≤ 255) :
    Calls Tryd.prog 78 #[.slice (some ⟨b, off, none⟩) len cap, .int .i64 1] w fun e w' => e = .returned (.tuple #[.int .i64 x0, .int .i64 1, .nilIface]) ∧ Below w.heap.size w w' := by
  unfold maxLen at hcm
  have e0 : bits .or .i64 0 x0 = x0 := V.or_zero x0 r0.1 (by omega)
  go_enter Tryd.func78, Tryd.ntmps78
  go_wp2
  refine wp_loop_rounds 2 ?_
  rw [rounds_succ]
  go_wp2
  rw [rounds_succ]
  go_wp2
  go_ret3
  exact ⟨rfl, by go_grown⟩
theorem gnum_2 (b off len cap : Nat) (x0 x1 : Int) (w : World) (hl : 2 ≤ len) (hcap : len ≤ cap) (hcm : cap ≤ maxLen) (c0 : w.cell? ⟨b, off, none⟩ = some (.int .u8 x0)) (c1 : w.cell? ⟨b, off + 1, none⟩ = some (.int .u8 x1)) (r0 : 0 ≤ x0 ∧ x0 ≤ 255) (r1 : 0 ≤ x1 ∧ x1 ≤ 255) :
    Calls Tryd.prog 78 #[.slice (some ⟨b, off, none⟩) len cap, .int .i64 2] w fun e w' => e = .returned (.tuple #[.int .i64 (x0 * 256 + x1), .int .i64 2, .nilIface]) ∧ Below w.heap.size w w' := by
  unfold maxLen at hcm
  have e0 : bits .or .i64 0 x0 = x0 := V.or_zero x0 r0.1 (by omega)
  have e1 := or_256 x0 x1 r0.1 (by omega) r1.1 r1.2
  go_enter Tryd.func78, Tryd.ntmps78
  go_wp2
  refine wp_loop_rounds 3 ?_
  rw [rounds_succ]
  go_wp2
  rw [rounds_succ]
  go_wp2
  rw [rounds_succ]
  go_wp2
  go_ret3
  exact ⟨rfl, by go_grown⟩
theorem gnum_4 (b off len cap : Nat) (x0 x1 x2 x3 : Int) (w : World) (hl : 4 ≤ len) (hcap : len ≤ cap) (hcm : cap ≤ maxLen) (c0 : w.cell? ⟨b, off, none⟩ = some (.int .u8 x0)) (c1 : w.cell? ⟨b, off + 1, none⟩ = some (.int .u8 x1)) (c2 : w.cell? ⟨b, off + 2, none⟩ = some (.int .u8 x2)) (c3 : w.cell? ⟨b, off + 3, none⟩ = some (.int .u8 x3)) (r0 : 0 ≤ x0 ∧ x0 ≤ 255) (r1 : 0 ≤ x1 ∧ x1 ≤ 255) (r2 : 0 ≤ x2 ∧ x2 ≤ 255) (r3 : 0 ≤ x3 ∧ x3 ≤ 255) :
    Calls Tryd.prog 78 #[.slice (some ⟨b, off, none⟩) len cap, .int .i64 4] w fun e w' => e = .returned (.tuple #[.int .i64 (((x0 * 256 + x1) * 256 + x2) * 256 + x3), .int .i64 4, .nilIface]) ∧ Below w.heap.size w w' := by
  unfold maxLen at hcm
  have e0 : bits .or .i64 0 x0 = x0 := V.or_zero x0 r0.1 (by omega)
  have e1 := or_256 x0 x1 r0.1 (by omega) r1.1 r1.2
  have e2 := or_256 (x0 * 256 + x1) x2 (by omega) (by omega) r2.1 r2.2
  have e3 := or_256 ((x0 * 256 + x1) * 256 + x2) x3 (by omega) (by omega) r3.1 r3.2
  go_enter Tryd.func78, Tryd.ntmps78
  go_wp2
  refine wp_loop_rounds 5 ?_
  rw [rounds_succ]
  go_wp2
  rw [rounds_succ]
  go_wp2
  rw [rounds_succ]
  go_wp2
  rw [rounds_succ]
  go_wp2
  rw [rounds_succ]
  go_wp2
  go_ret3
  exact ⟨rfl, by go_grown⟩
end Go.Proofs.YtpfpollejhdbgaaDoor
/- Proved here: text.GetBin and dovecoteref1.GetBin tell the bytes with which bytes begin, and how many they are with their length, or that they end too early. Helper contracts. -/
namespace Go.Proofs.YtpfpollejhdbgaaDoor
open Go.RowKit

/-- how many bytes the two first ones tell -/
def nb (l : List Int) : Nat := (l.getD 0 0 * 256 + l.getD 1 0).toNat
/-- the bytes themselves -/
def gbs (l : List Int) : ByteArray := bs ((l.drop 2).take (nb l))
theorem conv_bytes (w : World) (b off cap : Nat) (l : List Int) (hr : ∀ j, 0 ≤ l.getD j 0 ∧ l.getD j 0 ≤ 255) (hc : ∀ j, j < l.length → w.cell? ⟨b, off + j, none⟩ = some (.int .u8 (l.getD j 0))) :
    (convert 24 9 (.slice (some ⟨b, off, none⟩) l.length cap)).run Tryd.prog w = .ok (.string (bs l)) w := by
  have h := run_convert_bytes_back (P := Tryd.prog) w 24 9 5 ⟨b, off, none⟩ cap (l.map fun n => UInt8.ofNat n.toNat) Tryd.underlying24 Tryd.underlying5 Tryd.underlying9 (fun j hj => by
    rw [List.length_map] at hj
    have h1 := hr j
    rw [addr_add, hc j hj]
    rw [List.getD_eq_getElem?_getD, List.getElem?_eq_getElem hj] at h1 ⊢
    simp only [Option.getD_some] at h1
    simp only [Option.getD_some, List.getElem_map, UInt8.toNat_ofNat']
    congr 2
    omega)
  rw [List.length_map] at h
  exact h
/-- what two bytes ahead tell, as the walks want it -/
theorem nb_or (l : List Int) (h0 : 0 ≤ l.getD 0 0 ∧ l.getD 0 0 ≤ 255) (h1 : 0 ≤ l.getD 1 0 ∧ l.getD 1 0 ≤ 255) : bits .or .i64 (l.getD 0 0 * 256) (l.getD 1 0) = (nb l : Int) ∧ nb l ≤ 65535 := by
  rw [or_i64 _ _ 8 (by omega) (by omega) (by omega) (by omega) (by omega) (by omega)]
  unfold nb
  omega

theorem take_drop_length (l : List Int) (k n : Nat) (h : k + n ≤ l.length) : ((l.drop k).take n).length = n := by rw [List.length_take, List.length_drop]; omega
theorem take_drop_getD (l : List Int) (k n j : Nat) (hj : j < n) : ((l.drop k).take n).getD j 0 = l.getD (k + j) 0 := by
  rw [List.getD_eq_getElem?_getD, List.getElem?_take, if_pos hj, List.getElem?_drop, ← List.getD_eq_getElem?_getD]
theorem take_drop_range (l : List Int) (k n : Nat) (h : ∀ j, 0 ≤ l.getD j 0 ∧ l.getD j 0 ≤ 255) : ∀ j, 0 ≤ ((l.drop k).take n).getD j 0 ∧ ((l.drop k).take n).getD j 0 ≤ 255 := by
  intro j
  by_cases hj : j < n
  · rw [take_drop_getD l k n j hj]; exact h _
  · rw [List.getD_eq_getElem?_getD, List.getElem?_take, if_neg hj]; simp
/-- the bytes behind the length, turned into a text, in the forms that the walks meet -/
theorem gbs_conv (b off len cap : Nat) (l : List Int) (w : World) (hm : Mem w b off len l) (hl : 2 + nb l ≤ len) :
    ∀ q, (convert 24 9 (.slice (some ⟨b, off + 2, none⟩) (nb l) (cap - 2))).run Tryd.prog (w.drewN q) = .ok (.string (gbs l)) (w.drewN q) := by
  intro q
  have hlen := take_drop_length l 2 (nb l) (by rw [hm.len]; exact hl)
  have h := conv_bytes (w.drewN q) b (off + 2) (cap - 2) ((l.drop 2).take (nb l)) (take_drop_range l 2 _ hm.range) (fun j hj => by
    rw [hlen] at hj
    rw [World.cell?_drewN, take_drop_getD l 2 _ j hj, Nat.add_assoc]
    exact hm.cell (2 + j) (by omega))
  rw [hlen] at h
  exact h
theorem gbs_conv0 (b off : Nat) (l : List Int) (w : World) (h0 : nb l = 0) :
    ∀ q, (convert 24 9 (.slice (some ⟨b, off, none⟩) 0 0)).run Tryd.prog (w.drewN q) = .ok (.string (gbs l)) (w.drewN q) := by
  intro q
  have h := conv_bytes (w.drewN q) b off 0 [] (by intro j; simp) (by intro j hj; simp at hj)
  unfold gbs
  rw [h0]
  exact h

set_option maxRecDepth 100000 in
set_option maxHeartbeats 1000000 in
theorem gb_ok (b off len cap : Nat) (l : List Int) (w : World) (hm : Mem w b off len l) (hl2 : 2 ≤ len) (hl : 2 + nb l ≤ len) (hcap : len ≤ cap) (hcm : cap ≤ maxLen) :
    Calls Tryd.prog 80 #[.slice (some ⟨b, off, none⟩) len cap] w fun e w' => e = .returned (.tuple #[.string (gbs l), .int .i64 (2 + nb l : Nat), .nilIface]) ∧ ∃ q, w' = w.drewN q := by
  unfold maxLen at hcm
  have hc0 := hm.cell0 (by omega)
  have hc1 := hm.cell 1 (by omega)
  have hr0 := hm.range 0
  have hr1 := hm.range 1
  obtain ⟨hor, hn⟩ := nb_or l hr0 hr1
  have hconv := gbs_conv b off len cap l w hm hl
  have hconv0 := gbs_conv0 b off l w
  have HM := hide hm
  clear hm
  generalize hg : gbs l = g at hconv hconv0
  have HG := hide hg
  generalize hnn : nb l = n at hl hor hn hconv hconv0
  have HN := hide hnn
  generalize l.getD 0 0 = c0 at hc0 hr0 hor
  generalize l.getD 1 0 = c1 at hc1 hr1 hor
  clear hg hnn
  by_cases hc2 : cap = 2
  · subst hc2
    obtain rfl : n = 0 := by omega
    obtain rfl : len = 2 := by omega
    have hconv1 := hconv0 rfl
    clear hconv hconv0
    go_enter Tryd.func80, Tryd.ntmps80
    go_wp2
    go_quiet (fail)
    go_wp2
    go_ret3
    exact ⟨rfl, _, rfl⟩
  · clear hconv0
    go_enter Tryd.func80, Tryd.ntmps80
    go_wp2
    go_quiet (fail)
    go_wp2
    go_ret3
    exact ⟨rfl, _, rfl⟩
theorem gb_short2 (ao : Option Addr) (len cap : Nat) (w : World) (hl : len < 2) :
    Calls Tryd.prog 80 #[.slice ao len cap] w fun e w' => e = .returned (.tuple #[.string ⟨#[]⟩, .int .i64 0, .iface 79 (.pointer (some ⟨w.heap.size, 0, none⟩))]) ∧ w' = faultW 3 w := by
  go_enter Tryd.func80, Tryd.ntmps80
  go_wp2_with (go_at_call 85; refine (fault_any _ _).mono ?_; rintro e w' ⟨rfl, rfl⟩)
  go_ret3
  exact ⟨rfl, rfl⟩
set_option maxRecDepth 100000 in
theorem gb_short (b off len cap : Nat) (l : List Int) (w : World) (hm : Mem w b off len l) (hl2 : 2 ≤ len) (hl : len < 2 + nb l) :
    Calls Tryd.prog 80 #[.slice (some ⟨b, off, none⟩) len cap] w fun e w' => e = .returned (.tuple #[.string ⟨#[]⟩, .int .i64 0, .iface 79 (.pointer (some ⟨w.heap.size, 0, none⟩))]) ∧ ∃ q, w' = faultW 3 (w.drewN q) := by
  have hc0 := hm.cell0 (by omega)
  have hc1 := hm.cell 1 (by omega)
  have hr0 := hm.range 0
  have hr1 := hm.range 1
  obtain ⟨hor, hn⟩ := nb_or l hr0 hr1
  have HM := hide hm
  clear hm
  generalize hnn : nb l = n at hl hor hn
  have HN := hide hnn
  generalize l.getD 0 0 = c0 at hc0 hr0 hor
  generalize l.getD 1 0 = c1 at hc1 hr1 hor
  clear hnn
  go_enter Tryd.func80, Tryd.ntmps80
  go_wp2
  go_quiet (fail)
  go_wp2_with (go_at_call 85; refine (fault_any _ _).mono ?_; rintro e w' ⟨rfl, rfl⟩)
  go_ret3
  exact ⟨rfl, _, rfl⟩

set_option maxRecDepth 100000 in
set_option maxHeartbeats 1000000 in
theorem rgb_ok (b off len cap : Nat) (l : List Int) (w : World) (hm : Mem w b off len l) (hl2 : 2 ≤ len) (hl : 2 + nb l ≤ len) (hcap : len ≤ cap) (hcm : cap ≤ maxLen) :
    Calls Tryd.prog 52 #[.slice (some ⟨b, off, none⟩) len cap] w fun e w' => e = .returned (.tuple #[.string (gbs l), .int .i64 (2 + nb l : Nat), .int .i64 0]) ∧ ∃ q, w' = w.drewN q := by
  unfold maxLen at hcm
  have hc0 := hm.cell0 (by omega)
  have hc1 := hm.cell 1 (by omega)
  have hr0 := hm.range 0
  have hr1 := hm.range 1
  obtain ⟨hor, hn⟩ := nb_or l hr0 hr1
  have hconv := gbs_conv b off len cap l w hm hl
  have hconv0 := gbs_conv0 b off l w
  have HM := hide hm
  clear hm
  generalize hg : gbs l = g at hconv hconv0
  have HG := hide hg
  generalize hnn : nb l = n at hl hor hn hconv hconv0
  have HN := hide hnn
  generalize l.getD 0 0 = c0 at hc0 hr0 hor
  generalize l.getD 1 0 = c1 at hc1 hr1 hor
  clear hg hnn
  by_cases hc2 : cap = 2
  · subst hc2
    obtain rfl : n = 0 := by omega
    obtain rfl : len = 2 := by omega
    have hconv1 := hconv0 rfl
    clear hconv hconv0
    go_enter Tryd.func52, Tryd.ntmps52
    go_wp2
    go_quiet (fail)
    go_wp2
    go_ret3
    exact ⟨rfl, _, rfl⟩
  · clear hconv0
    go_enter Tryd.func52, Tryd.ntmps52
    go_wp2
    go_quiet (fail)
    go_wp2
    go_ret3
    exact ⟨rfl, _, rfl⟩
theorem rgb_short2 (ao : Option Addr) (len cap : Nat) (w : World) (hl : len < 2) :
    Calls Tryd.prog 52 #[.slice ao len cap] w fun e w' => e = .returned (.tuple #[.string ⟨#[]⟩, .int .i64 0, .int .i64 3]) ∧ w' = w := by
  go_enter Tryd.func52, Tryd.ntmps52
  go_wp2
  go_ret3
  exact ⟨rfl, rfl⟩
set_option maxRecDepth 100000 in
theorem rgb_short (b off len cap : Nat) (l : List Int) (w : World) (hm : Mem w b off len l) (hl2 : 2 ≤ len) (hl : len < 2 + nb l) :
    Calls Tryd.prog 52 #[.slice (some ⟨b, off, none⟩) len cap] w fun e w' => e = .returned (.tuple #[.string ⟨#[]⟩, .int .i64 0, .int .i64 3]) ∧ ∃ q, w' = w.drewN q := by
  have hc0 := hm.cell0 (by omega)
  have hc1 := hm.cell 1 (by omega)
  have hr0 := hm.range 0
  have hr1 := hm.range 1
  obtain ⟨hor, hn⟩ := nb_or l hr0 hr1
  have HM := hide hm
  clear hm
  generalize hnn : nb l = n at hl hor hn
  have HN := hide hnn
  generalize l.getD 0 0 = c0 at hc0 hr0 hor
  generalize l.getD 1 0 = c1 at hc1 hr1 hor
  clear hnn
  go_enter Tryd.func52, Tryd.ntmps52
  go_wp2
  go_quiet (fail)
  go_wp2
  go_ret3
  exact ⟨rfl, _, rfl⟩

/-- bytes are there in full -/
def full (l : List Int) : Bool := decide (2 ≤ l.length) && decide (2 + nb l ≤ l.length)
theorem gbin_ok (v : Value) (l : List Int) (w : World) (hv : Byt w v l) (h : full l = true) : Calls Tryd.prog 80 #[v] w fun e w' => e = .returned (.tuple #[.string (gbs l), .int .i64 (2 + nb l : Nat), .nilIface]) ∧ ∃ q, w' = w.drewN q := by
  simp only [full, Bool.and_eq_true, decide_eq_true_eq] at h
  obtain ⟨ao, cap, rfl, hlen, hr, hcase⟩ := hv
  rcases hcase with rfl | ⟨b, off, rfl, hc⟩
  · simp at h
  · exact gb_ok b off l.length cap l w ⟨rfl, hc, hr⟩ h.1 h.2 hlen.1 hlen.2
theorem rgbin_ok (v : Value) (l : List Int) (w : World) (hv : Byt w v l) (h : full l = true) : Calls Tryd.prog 52 #[v] w fun e w' => e = .returned (.tuple #[.string (gbs l), .int .i64 (2 + nb l : Nat), .int .i64 0]) ∧ ∃ q, w' = w.drewN q := by
  simp only [full, Bool.and_eq_true, decide_eq_true_eq] at h
  obtain ⟨ao, cap, rfl, hlen, hr, hcase⟩ := hv
  rcases hcase with rfl | ⟨b, off, rfl, hc⟩
  · simp at h
  · exact rgb_ok b off l.length cap l w ⟨rfl, hc, hr⟩ h.1 h.2 hlen.1 hlen.2
theorem gbin_short (v : Value) (l : List Int) (w : World) (hv : Byt w v l) (h : full l = false) : Calls Tryd.prog 80 #[v] w fun e w' => e = .returned (.tuple #[.string ⟨#[]⟩, .int .i64 0, .iface 79 (.pointer (some ⟨w.heap.size, 0, none⟩))]) ∧ ∃ q, w' = faultW 3 (w.drewN q) := by
  simp only [full, Bool.and_eq_false_iff, decide_eq_false_iff_not] at h
  obtain ⟨ao, cap, rfl, hlen, hr, hcase⟩ := hv
  by_cases h2 : l.length < 2
  · refine (gb_short2 ao l.length cap w h2).mono ?_
    rintro e w' ⟨rfl, rfl⟩
    exact ⟨rfl, 0, rfl⟩
  · rcases hcase with rfl | ⟨b, off, rfl, hc⟩
    · simp at h2
    · exact gb_short b off l.length cap l w ⟨rfl, hc, hr⟩ (by omega) (by omega)
theorem rgbin_short (v : Value) (l : List Int) (w : World) (hv : Byt w v l) (h : full l = false) : Calls Tryd.prog 52 #[v] w fun e w' => e = .returned (.tuple #[.string ⟨#[]⟩, .int .i64 0, .int .i64 3]) ∧ ∃ q, w' = w.drewN q := by
  simp only [full, Bool.and_eq_false_iff, decide_eq_false_iff_not] at h
  obtain ⟨ao, cap, rfl, hlen, hr, hcase⟩ := hv
  by_cases h2 : l.length < 2
  · refine (rgb_short2 ao l.length cap w h2).mono ?_
    rintro e w' ⟨rfl, rfl⟩
    exact ⟨rfl, 0, rfl⟩
  · rcases hcase with rfl | ⟨b, off, rfl, hc⟩
    · simp at h2
    · exact rgb_short b off l.length cap l w ⟨rfl, hc, hr⟩ (by omega) (by omega)
end Go.Proofs.YtpfpollejhdbgaaDoor
/- Proved here: text.Get and dovecoteref1.GetText tell the text with which bytes begin, and how many bytes it is with its length, or that it is none, or not all there. Helper contracts. -/
namespace Go.Proofs.YtpfpollejhdbgaaDoor
open Go.RowKit

/-- GetBin's answer: the bytes, how many with their length, the error's number -/
def gbn (l : List Int) : ByteArray × Int × Int := if full l = true then (gbs l, (2 + nb l : Nat), 0) else (⟨#[]⟩, 0, 3)
/-- Get's -/
def gt (l : List Int) : ByteArray × Int × Int := if full l = true then (if utf (sb (gbs l)) = true then (gbs l, (2 + nb l : Nat), 0) else (⟨#[]⟩, 0, 1)) else (⟨#[]⟩, 0, 3)
theorem gbs_size (l : List Int) (hr : ∀ j, 0 ≤ l.getD j 0 ∧ l.getD j 0 ≤ 255) : (gbs l).size ≤ 65535 := by
  rw [← sb_length]
  unfold gbs
  rw [sb_bs _ (take_drop_range l 2 _ hr), List.length_take]
  have := (nb_or l (hr 0) (hr 1)).2
  omega
theorem below_q {w : World} (q : Nat) : Below w.heap.size w (w.drewN q) := below_drewN (Below.refl _ _) q

theorem getBin_any (v : Value) (l : List Int) (w : World) (hv : Byt w v l) : Calls Tryd.prog 80 #[v] w fun e w' => ∃ E, e = .returned (.tuple #[.string (gbn l).1, .int .i64 (gbn l).2.1, E]) ∧ Hid (ErrIs w' E (gbn l).2.2) ∧ Below w.heap.size w w' := by
  by_cases hf : full l = true
  · unfold gbn
    rw [if_pos hf]
    refine (gbin_ok v l w hv hf).mono ?_
    rintro e w' ⟨rfl, q, rfl⟩
    exact ⟨_, rfl, .inl ⟨rfl, rfl⟩, below_q q⟩
  · unfold gbn
    rw [if_neg hf]
    refine (gbin_short v l w hv (by simpa using hf)).mono ?_
    rintro e w' ⟨rfl, q, rfl⟩
    exact ⟨_, rfl, fault_is 3 (w.drewN q), (below_q q).trans (fault_below 3 (w.drewN q))⟩
theorem rgetBin_any (v : Value) (l : List Int) (w : World) (hv : Byt w v l) : Calls Tryd.prog 52 #[v] w fun e w' => e = .returned (.tuple #[.string (gbn l).1, .int .i64 (gbn l).2.1, .int .i64 (gbn l).2.2]) ∧ Below w.heap.size w w' := by
  by_cases hf : full l = true
  · unfold gbn
    rw [if_pos hf]
    refine (rgbin_ok v l w hv hf).mono ?_
    rintro e w' ⟨rfl, q, rfl⟩
    exact ⟨rfl, below_q q⟩
  · unfold gbn
    rw [if_neg hf]
    refine (rgbin_short v l w hv (by simpa using hf)).mono ?_
    rintro e w' ⟨rfl, q, rfl⟩
    exact ⟨rfl, below_q q⟩

theorem get_short (v : Value) (l : List Int) (w : World) (hv : Byt w v l) (h : full l = false) : Calls Tryd.prog 79 #[v] w fun e w' => e = .returned (.tuple #[.string ⟨#[]⟩, .int .i64 0, .iface 79 (.pointer (some ⟨w.heap.size, 0, none⟩))]) ∧ ∃ q, w' = faultW 3 (w.drewN q) := by
  have HG := hide (gbin_short v l w hv h)
  have HV := hide hv
  clear hv
  go_enter Tryd.func79, Tryd.ntmps79
  go_wp2_with (go_at_call 80; refine (unhide HG).mono ?_; rintro e w' ⟨rfl, q, rfl⟩)
  go_ret3
  exact ⟨rfl, _, rfl⟩
theorem get_ok (v : Value) (l : List Int) (w : World) (hv : Byt w v l) (h : full l = true) (hu : utf (sb (gbs l)) = true) : Calls Tryd.prog 79 #[v] w fun e w' => e = .returned (.tuple #[.string (gbs l), .int .i64 (2 + nb l : Nat), .nilIface]) ∧ ∃ q, w' = w.drewN q := by
  have HG := hide (gbin_ok v l w hv h)
  have hz := gbs_size l hv.range
  have HC : Hid (chk (sb (gbs l)) = 0) := by show _ = _; unfold chk; rw [if_pos hu, if_pos (by rw [sb_length]; exact hz)]
  have hnb := (nb_or l (hv.range 0) (hv.range 1)).2
  have HV := hide hv
  have HU := hide hu
  clear hv hu
  generalize nb l = n at HG hnb
  generalize gbs l = g at HG hz HC
  go_enter Tryd.func79, Tryd.ntmps79
  go_wp2_with (first | (go_at_call 80; refine (unhide HG).mono ?_; rintro e w' ⟨rfl, q, rfl⟩) | (go_at_call 83; refine (check_ok g _ (by omega) (unhide HC)).mono ?_; rintro e w' ⟨rfl, rfl⟩))
  go_ret3
  exact ⟨rfl, _, rfl⟩
theorem get_form (v : Value) (l : List Int) (w : World) (hv : Byt w v l) (h : full l = true) (hu : utf (sb (gbs l)) = false) : Calls Tryd.prog 79 #[v] w fun e w' => e = .returned (.tuple #[.string ⟨#[]⟩, .int .i64 0, .iface 79 (.pointer (some ⟨w.heap.size, 0, none⟩))]) ∧ ∃ q, w' = faultW 1 (w.drewN q) := by
  have HG := hide (gbin_ok v l w hv h)
  have hz := gbs_size l hv.range
  have HC : Hid (chk (sb (gbs l)) = 1) := by show _ = _; unfold chk; rw [if_neg (by rw [hu]; simp)]
  have HV := hide hv
  have HU := hide hu
  clear hv hu
  generalize nb l = n at HG
  generalize gbs l = g at HG hz HC
  go_enter Tryd.func79, Tryd.ntmps79
  go_wp2_with (first | (go_at_call 80; refine (unhide HG).mono ?_; rintro e w' ⟨rfl, q, rfl⟩) | (go_at_call 83; refine (check_bad g 1 _ (by omega) (unhide HC) (by decide)).mono ?_; rintro e w' ⟨rfl, rfl⟩))
  go_ret3
  exact ⟨rfl, _, rfl⟩
theorem get_any (v : Value) (l : List Int) (w : World) (hv : Byt w v l) : Calls Tryd.prog 79 #[v] w fun e w' => ∃ E, e = .returned (.tuple #[.string (gt l).1, .int .i64 (gt l).2.1, E]) ∧ Hid (ErrIs w' E (gt l).2.2) ∧ Below w.heap.size w w' := by
  unfold gt
  by_cases hf : full l = true
  · rw [if_pos hf]
    by_cases hu : utf (sb (gbs l)) = true
    · rw [if_pos hu]
      refine (get_ok v l w hv hf hu).mono ?_
      rintro e w' ⟨rfl, q, rfl⟩
      exact ⟨_, rfl, .inl ⟨rfl, rfl⟩, below_q q⟩
    · rw [if_neg hu]
      refine (get_form v l w hv hf (by simpa using hu)).mono ?_
      rintro e w' ⟨rfl, q, rfl⟩
      exact ⟨_, rfl, fault_is 1 (w.drewN q), (below_q q).trans (fault_below 1 (w.drewN q))⟩
  · rw [if_neg hf]
    refine (get_short v l w hv (by simpa using hf)).mono ?_
    rintro e w' ⟨rfl, q, rfl⟩
    exact ⟨_, rfl, fault_is 3 (w.drewN q), (below_q q).trans (fault_below 3 (w.drewN q))⟩

theorem rget_short (v : Value) (l : List Int) (w : World) (hv : Byt w v l) (h : full l = false) : Calls Tryd.prog 51 #[v] w fun e w' => e = .returned (.tuple #[.string ⟨#[]⟩, .int .i64 0, .int .i64 3]) ∧ Below w.heap.size w w' := by
  have HG := hide (rgbin_short v l w hv h)
  have HV := hide hv
  clear hv
  go_enter Tryd.func51, Tryd.ntmps51
  go_wp2_with (go_at_call 52; refine (unhide HG).mono ?_; rintro e w' ⟨rfl, q, rfl⟩)
  go_ret3
  exact ⟨rfl, below_q q⟩
theorem rget_ok (v : Value) (l : List Int) (w : World) (hv : Byt w v l) (h : full l = true) (hu : utf (sb (gbs l)) = true) : Calls Tryd.prog 51 #[v] w fun e w' => e = .returned (.tuple #[.string (gbs l), .int .i64 (2 + nb l : Nat), .int .i64 0]) ∧ Below w.heap.size w w' := by
  have HG := hide (rgbin_ok v l w hv h)
  have hz := gbs_size l hv.range
  have HV := hide hv
  clear hv
  generalize nb l = n at HG
  generalize gbs l = g at HG hz hu
  go_enter Tryd.func51, Tryd.ntmps51
  go_wp2_with (first | (go_at_call 52; refine (unhide HG).mono ?_; rintro e w' ⟨rfl, q, rfl⟩; obtain ⟨v2, w2, hrun, hby, hb⟩ := conv_str g (by unfold maxLen; omega) (w.drewN q); have HBY := hide hby; have HB := hide hb; clear hby hb) | (go_at_call 53; refine (rutf_any v2 (sb g) _ (unhide HBY)).mono ?_; rintro e w' ⟨rfl, rfl⟩))
  go_ret3
  exact ⟨rfl, (below_q q).trans (unhide HB)⟩
theorem rget_form (v : Value) (l : List Int) (w : World) (hv : Byt w v l) (h : full l = true) (hu : utf (sb (gbs l)) = false) : Calls Tryd.prog 51 #[v] w fun e w' => e = .returned (.tuple #[.string ⟨#[]⟩, .int .i64 0, .int .i64 1]) ∧ Below w.heap.size w w' := by
  have HG := hide (rgbin_ok v l w hv h)
  have hz := gbs_size l hv.range
  have HV := hide hv
  clear hv
  generalize nb l = n at HG
  generalize gbs l = g at HG hz hu
  go_enter Tryd.func51, Tryd.ntmps51
  go_wp2_with (first | (go_at_call 52; refine (unhide HG).mono ?_; rintro e w' ⟨rfl, q, rfl⟩; obtain ⟨v2, w2, hrun, hby, hb⟩ := conv_str g (by unfold maxLen; omega) (w.drewN q); have HBY := hide hby; have HB := hide hb; clear hby hb) | (go_at_call 53; refine (rutf_any v2 (sb g) _ (unhide HBY)).mono ?_; rintro e w' ⟨rfl, rfl⟩))
  go_ret3
  exact ⟨rfl, (below_q q).trans (unhide HB)⟩
theorem rget_any (v : Value) (l : List Int) (w : World) (hv : Byt w v l) : Calls Tryd.prog 51 #[v] w fun e w' => e = .returned (.tuple #[.string (gt l).1, .int .i64 (gt l).2.1, .int .i64 (gt l).2.2]) ∧ Below w.heap.size w w' := by
  unfold gt
  by_cases hf : full l = true
  · rw [if_pos hf]
    by_cases hu : utf (sb (gbs l)) = true
    · rw [if_pos hu]
      exact rget_ok v l w hv hf hu
    · rw [if_neg hu]
      exact rget_form v l w hv hf (by simpa using hu)
  · rw [if_neg hf]
    exact rget_short v l w hv (by simpa using hf)
end Go.Proofs.YtpfpollejhdbgaaDoor
