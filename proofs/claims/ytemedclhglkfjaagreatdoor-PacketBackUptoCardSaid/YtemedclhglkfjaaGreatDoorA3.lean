/- Proved here: helpers, one text behind the other. -/
import Derived.Test.YtemedclhglkfjaaGreatDoorM8
import Derived.Test.YtemedclhglkfjaaGreatDoorZErrNum
import Derived.Lib.AppendStr
set_option maxHeartbeats 20000000
namespace Go.Proofs.YtemedclhglkfjaaGreatDoor
open Go.RowKit
abbrev faultW (n : Int) (w : World) : World := w.alloc (.cells #[.string ⟨#[116,101,120,116]⟩,.iface 63 (.int .i64 n)] 114)
theorem fault_any (n : Int) (w : World) : Calls Tryz.prog 139 #[.int .i64 n] w fun e w' => e = .returned (.iface 112 (.pointer (some ⟨w.heap.size,0,none⟩))) /\ w' = faultW n w := by
 go_enter Tryz.func139,Tryz.ntmps139
 go_wp2
 go_ret
 exact ⟨rfl,rfl⟩
theorem fault_is (n : Int) (w : World) : ErrIs (faultW n w) (.iface 112 (.pointer (some ⟨w.heap.size,0,none⟩))) n := .inr ⟨_,rfl,by simp⟩
theorem fault_below (n : Int) (w : World) : Below w.heap.size w (faultW n w) := bal _ _
def ChkPost (l : List Int) (w : World) (e : Ending) (w' : World) : Prop :=
 (chk l = 0 /\ e = .returned .nilIface /\ w' = w) \/ (∃ n,chk l = n /\ n ≠ 0 /\ e = .returned (.iface 112 (.pointer (some ⟨w.heap.size,0,none⟩))) /\ w' = faultW n w)
set_option maxRecDepth 100000 in
theorem check_core (s : ByteArray) (w : World) (hs : s.size <= 4611686018427387904) : Calls Tryz.prog 137 #[.string s] w (ChkPost (sb s) w) := by
 have HL := zh (sb_length s)
 go_enter Tryz.func137,Tryz.ntmps137
 go_wp2
 go_loop [3] (fun i => ∃ k : Nat,k <= s.size /\ i = .int .i64 k /\ Hid (utf ((sb s).drop k) = utf (sb s))) (fun i => s.size - (intOf i).toNat)
 case atStart => exact ⟨0,Nat.zero_le _,rfl,rfl⟩
 case round =>
  obtain ⟨k,hk,rfl,hu⟩ := hrel
  by_cases hlt : k < s.size
  ·have hps : ∀ w,Calls Tryz.prog 145 #[.string (s.extract k s.size)] w fun e w' => e = .returned (.int .i64 (pt ((sb s).drop k))) /\ w' = w := fun w => by
    rw [<- sb_drop]
    exact ps_any _ w (by rw [ByteArray.size_extract]; omega)
   have HPS := zh hps
   clear hps
   have h4 := pt_le4 ((sb s).drop k)
   have hle : pt ((sb s).drop k) + k <= s.size := by
    have := pt_le ((sb s).drop k)
    rw [List.length_drop,uh HL] at this
    omega
   have hnot := zh (utf_not (sb s) k (by rw [uh HL]; exact hlt))
   have hyes := zh (utf_drop (sb s) k (by rw [uh HL]; exact hlt))
   generalize pt ((sb s).drop k) = p at HPS h4 hle hnot hyes
   by_cases hp : p = 0
   ·subst hp
    have hc : Hid (chk (sb s) = 1) := by show _ = _; unfold chk; rw [if_neg]; rw [<- uh hu,(uh hnot) rfl]; simp
    clear hyes
    go_wp2_with (first | (go_at_call 145; refine ((uh HPS) _).mono ?_; rintro e w' ⟨rfl,rfl⟩) | (go_at_call 139; refine (fault_any _ _).mono ?_; rintro e w' ⟨rfl,rfl⟩))
    go_ret
    exact .inr ⟨1,uh hc,by omega,rfl,rfl⟩
   ·have hp0 : ((p : Int) == 0) = false := beq_eq_false_iff_ne.2 (by omega)
    have hu' : Hid (utf ((sb s).drop (k + p)) = utf (sb s)) := by show _ = _; rw [<- (uh hyes) hp]; exact uh hu
    clear hnot hyes
    go_wp2_with (first | (go_at_call 145; refine ((uh HPS) _).mono ?_; rintro e w' ⟨rfl,rfl⟩))
    go_round
    case rel => exact ⟨k + p,by omega,by go_num,hu'⟩
    case measure => simp [intOf]; omega
  ·obtain rfl : k = s.size := by omega
   have ht : utf (sb s) = true := by rw [<- uh hu,List.drop_of_length_le (by rw [uh HL]; exact Nat.le_refl _)]; rfl
   by_cases hm : s.size <= 65535
   ·have hc : Hid (chk (sb s) = 0) := by show _ = _; unfold chk; rw [if_pos ht,if_pos (by rw [uh HL]; exact hm)]
    clear ht
    go_wp2
    go_ret
    exact .inl ⟨uh hc,rfl,rfl⟩
   ·have hc : Hid (chk (sb s) = 2) := by show _ = _; unfold chk; rw [if_pos ht,if_neg (by rw [uh HL]; exact hm)]
    clear ht
    go_wp2_with (go_at_call 139; refine (fault_any _ _).mono ?_; rintro e w' ⟨rfl,rfl⟩)
    go_ret
    exact .inr ⟨2,uh hc,by omega,rfl,rfl⟩
theorem check_ok (s : ByteArray) (w : World) (hs : s.size <= 4611686018427387904) (h : chk (sb s) = 0) : Calls Tryz.prog 137 #[.string s] w fun e w' => e = .returned .nilIface /\ w' = w := by
 refine (check_core s w hs).mono ?_
 rintro e w' (⟨_,h1⟩ | ⟨n,h1,h2,_⟩)
 ·exact h1
 ·exact absurd (h1.symm.trans h) h2
theorem check_bad (s : ByteArray) (n : Int) (w : World) (hs : s.size <= 4611686018427387904) (h : chk (sb s) = n) (h0 : n ≠ 0) : Calls Tryz.prog 137 #[.string s] w fun e w' => e = .returned (.iface 112 (.pointer (some ⟨w.heap.size,0,none⟩))) /\ w' = faultW n w := by
 refine (check_core s w hs).mono ?_
 rintro e w' (⟨h1,_⟩ | ⟨m,h1,_,h3⟩)
 ·exact absurd (h.symm.trans h1) h0
 ·obtain rfl : m = n := h1.symm.trans h
  exact h3
theorem Tryz.infoU8 : (Tryz.prog.info? 5).map (fun i => (i.zero,i.size,i.bytes)) = some (some (.int .u8 0),1,1) := by kernel_rfl
theorem strCells_sb (s : ByteArray) : Lib.strCells s = (sb s).map (Value.int .u8) := by unfold Lib.strCells sb; rw [List.map_map]; rfl
def tx (s : ByteArray) : List Int := [(s.size : Int) / 256,(s.size : Int) % 256] ++ sb s
theorem tx_length (s : ByteArray) : (tx s).length = 2 + s.size := by unfold tx; rw [List.length_append,sb_length]; rfl
theorem two_cell (w : World) (y z : Value) (t : TypeId) : ∀ j u,[y,z][j]? = some u -> (w.alloc (.cells #[y,z] t)).cell? ((⟨w.heap.size,0,none⟩ : Addr).add j) = some u := by
 intro j u hj
 match j,hj with
 | 0,hj => simp at hj; subst hj; simp [Addr.add]
 | 1,hj => simp at hj; subst hj; simp [Addr.add]
theorem two_one (k : IntKind) (y z : Int) : ∀ u ∈ [Value.int k y,Value.int k z],u.oneCell' = true := by
 intro u hu; simp at hu; rcases hu with rfl | rfl <;> rfl
set_option maxRecDepth 100000 in
theorem wl_any (s : ByteArray) (w : World) (hs : s.size <= 65535) : Calls Tryz.prog 138 #[.string s] w fun e w' => ∃ v,e = .returned v /\ Hid (w'.ownsRow w.heap.size 5 1 v (2 + s.size) ((tx s).map (Value.int .u8))) /\ Below w.heap.size w w' := by
 obtain ⟨i0,hi,hz0,hz1,hz2⟩ := info_parts Tryz.infoU8
 go_enter Tryz.func138,Tryz.ntmps138
 go_wp2_with (first
  | (at_make; refine wpList_make_own _ rfl _ _ 31 rfl w.heap.size 5 i0 (.int .u8 0) 1 Tryz.underlying31 hi hz0 hz1 .i64 .i64 _ (2 + s.size) rfl rfl (by omega) (by rw [hz2]; omega) (by unfold maxLen; omega) (Nat.le_refl _) ?_; intro w0 hown0 hgrow0)
  | (at_builtin; refine wpList_append_own _ rfl _ _ 31 rfl w.heap.size 5 i0 (.int .u8 0) 1 1 Tryz.underlying31 hi hz0 hz1 hz2 rfl (by decide) _ _ _ rfl (hown0.alloc _) ⟨w0.heap.size,0,none⟩ 2 2 [.int .u8 ((s.size : Int) / 256),.int .u8 ((s.size : Int) % 256)] rfl rfl (two_cell _ _ _ _) (two_one _ _ _) (by unfold maxLen; omega) (by omega) (by have := hgrow0.size; simp; omega) ?_)
  | go_in)
 intro v1 w1 hown1 hgrow1 _
 have hb0 : Below w.heap.size w w0 := (Below.refl _ _).grown hgrow0 (Nat.le_refl _) (fun k hk => by cases hk)
 have hb1 : Below w.heap.size w w1 := (hb0.alloc hb0.size _).grown hgrow1 (by have := hb0.size; simp; omega) (fun k hk => (hown0.lt k hk).1)
 clear hgrow0 hgrow1 hown0 hb0
 go_wp2_with (first
  | (at_builtin; refine Lib.wpList_append_own_string _ rfl _ _ 31 9 rfl w.heap.size 5 i0 Tryz.underlying31 Tryz.underlying9 hi hz0 hz1 hz2 _ _ _ rfl hown1 s rfl (by unfold maxLen; omega) (by omega) hb1.size ?_)
  | go_in)
 intro v2 w2 hown2 hgrow2 _
 have hb2 : Below w.heap.size w w2 := hb1.grown hgrow2 hb1.size (fun k hk => (hown1.lt k hk).1)
 have hown3 : Hid (w2.ownsRow w.heap.size 5 1 v2 (2 + s.size) ((tx s).map (Value.int .u8))) := by
  unfold tx
  rw [List.map_append,<- strCells_sb]
  show World.ownsRow _ _ _ _ _ _ _
  simpa using hown2
 clear hgrow2 hown1 hb1 hown2
 go_wp2
 go_ret
 exact ⟨_,rfl,hown3,hb2⟩
def TxPost (s : ByteArray) (w : World) (e : Ending) (w' : World) : Prop :=
 ∃ v,e = .returned (.tuple #[v,.nilIface]) /\ Hid (w'.ownsRow w.heap.size 5 1 v (2 + s.size) ((tx s).map (Value.int .u8))) /\ Below w.heap.size w w'
def FaPost (n : Int) (w : World) (e : Ending) (w' : World) : Prop :=
 e = .returned (.tuple #[.slice none 0 0,.iface 112 (.pointer (some ⟨w.heap.size,0,none⟩))]) /\ w' = faultW n w
theorem chk_0 {l : List Int} (h : chk l = 0) : l.length <= 65535 := by
 unfold chk at h
 by_cases h1 : utf l = true
 ·rw [if_pos h1] at h
  by_cases h2 : l.length <= 65535
  ·exact h2
  ·rw [if_neg h2] at h; omega
 ·rw [if_neg h1] at h; omega
theorem put_ok (s : ByteArray) (w : World) (hc : chk (sb s) = 0) : Calls Tryz.prog 117 #[.string s] w (TxPost s w) := by
 have hs : s.size <= 65535 := by have := chk_0 hc; rw [sb_length] at this; exact this
 unfold TxPost
 have HC := zh hc
 clear hc
 go_enter Tryz.func117,Tryz.ntmps117
 go_wp2_with (first | (go_at_call 137; refine (check_ok s _ (by omega) (uh HC)).mono ?_; rintro e w' ⟨rfl,rfl⟩) | (go_at_call 138; refine (wl_any s _ hs).mono ?_; rintro e w' ⟨v,rfl,hown,hb⟩))
 go_ret2
 exact ⟨_,rfl,hown,hb⟩
theorem put_bad (s : ByteArray) (n : Int) (w : World) (hs : s.size <= 4611686018427387904) (hc : chk (sb s) = n) (hn : n ≠ 0) : Calls Tryz.prog 117 #[.string s] w (FaPost n w) := by
 unfold FaPost
 have HC := zh hc
 clear hc
 go_enter Tryz.func117,Tryz.ntmps117
 go_wp2_with (first | (go_at_call 137; refine (check_bad s n _ hs (uh HC) hn).mono ?_; rintro e w' ⟨rfl,rfl⟩))
 go_ret2
 exact ⟨rfl,rfl⟩
theorem putBin_ok (s : ByteArray) (w : World) (hs : s.size <= 65535) : Calls Tryz.prog 118 #[.string s] w (TxPost s w) := by
 unfold TxPost
 go_enter Tryz.func118,Tryz.ntmps118
 go_wp2_with (go_at_call 138; refine (wl_any s _ hs).mono ?_; rintro e w' ⟨v,rfl,hown,hb⟩)
 go_ret2
 exact ⟨_,rfl,hown,hb⟩
theorem putBin_bad (s : ByteArray) (w : World) (hs : 65535 < s.size) : Calls Tryz.prog 118 #[.string s] w (FaPost 2 w) := by
 unfold FaPost
 go_enter Tryz.func118,Tryz.ntmps118
 go_wp2_with (go_at_call 139; refine (fault_any _ _).mono ?_; rintro e w' ⟨rfl,rfl⟩)
 go_ret2
 exact ⟨rfl,rfl⟩
theorem tx_range (s : ByteArray) (hs : s.size <= 65535) : ∀ j,0 <= (tx s).getD j 0 /\ (tx s).getD j 0 <= 255 := by
 intro j
 unfold tx
 rcases j with _ | _ | j
 ·simp; omega
 ·simp; omega
 ·simpa using sb_range s j
end Go.Proofs.YtemedclhglkfjaaGreatDoor
