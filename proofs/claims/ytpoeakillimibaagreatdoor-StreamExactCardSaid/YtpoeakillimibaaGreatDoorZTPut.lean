/- Proved here: text.Put and PutBin tell a text's length in two bytes and its bytes behind, in memory of their own, or a Fault. Helper contracts. -/
import Derived.Test.YtpoeakillimibaaGreatDoorZTCheck
import Derived.Lib.AppendStr
set_option maxHeartbeats 20000000
namespace Go.Proofs.YtpoeakillimibaaGreatDoor
open Go.RowKit
theorem Tryz.infoU8 : (Tryz.prog.info? 5).map (fun i => (i.zero,i.size,i.bytes)) = some (some (.int .u8 0),1,1) := by kernel_rfl
theorem strCells_sb (s : ByteArray) : Lib.strCells s = (sb s).map (Value.int .u8) := by unfold Lib.strCells sb; rw [List.map_map]; rfl
def tx (s : ByteArray) : List Int := [(s.size : Int) / 256,(s.size : Int) % 256] ++ sb s
theorem tx_length (s : ByteArray) : (tx s).length = 2 + s.size := by unfold tx; rw [List.length_append,sb_length]; rfl
theorem two_cell (w : World) (y z : Value) (t : TypeId) : ∀ j u,[y,z][j]? = some u -> (w.alloc (.cells #[y,z] t)).cell? ((⟨w.heap.size,0,none⟩ : Addr).add j) = some u := by
 intro j u hj
 match j,hj with
 | 0,hj => simp at hj; subst hj; simp [Addr.add]
 | 1,hj => simp at hj; subst hj; simp [Addr.add]
theorem two_one (k : IntKind) (y z : Int) : ∀ u ∈ [Value.int k y,Value.int k z],u.oneCell' = true := by
 intro u hu; simp at hu; rcases hu with rfl | rfl <;> rfl
set_option maxRecDepth 100000 in
theorem wl_any (s : ByteArray) (w : World) (hs : s.size <= 65535) : Calls Tryz.prog 198 #[.string s] w fun e w' => ∃ v,e = .returned v /\ Hid (w'.ownsRow w.heap.size 5 1 v (2 + s.size) ((tx s).map (Value.int .u8))) /\ Below w.heap.size w w' := by
 obtain ⟨i0,hi,hz0,hz1,hz2⟩ := info_parts Tryz.infoU8
 go_enter Tryz.func198,Tryz.ntmps198
 go_wp2_with (first
  | (at_make; refine wpList_make_own _ rfl _ _ 31 rfl w.heap.size 5 i0 (.int .u8 0) 1 Tryz.underlying31 hi hz0 hz1 .i64 .i64 _ (2 + s.size) rfl rfl (by omega) (by rw [hz2]; omega) (by unfold maxLen; omega) (Nat.le_refl _) ?_; intro w0 hown0 hgrow0)
  | (at_builtin; refine wpList_append_own _ rfl _ _ 31 rfl w.heap.size 5 i0 (.int .u8 0) 1 1 Tryz.underlying31 hi hz0 hz1 hz2 rfl (by decide) _ _ _ rfl (hown0.alloc _) ⟨w0.heap.size,0,none⟩ 2 2 [.int .u8 ((s.size : Int) / 256),.int .u8 ((s.size : Int) % 256)] rfl rfl (two_cell _ _ _ _) (two_one _ _ _) (by unfold maxLen; omega) (by omega) (by have := hgrow0.size; simp; omega) ?_)
  | go_in)
 intro v1 w1 hown1 hgrow1 _
 have hb0 : Below w.heap.size w w0 := (Below.refl _ _).grown hgrow0 (Nat.le_refl _) (fun k hk => by cases hk)
 have hb1 : Below w.heap.size w w1 := (hb0.alloc hb0.size _).grown hgrow1 (by have := hb0.size; simp; omega) (fun k hk => (hown0.lt k hk).1)
 clear hgrow0 hgrow1 hown0 hb0
 go_wp2_with (first
  | (at_builtin; refine Lib.wpList_append_own_string _ rfl _ _ 31 9 rfl w.heap.size 5 i0 Tryz.underlying31 Tryz.underlying9 hi hz0 hz1 hz2 _ _ _ rfl hown1 s rfl (by unfold maxLen; omega) (by omega) hb1.size ?_)
  | go_in)
 intro v2 w2 hown2 hgrow2 _
 have hb2 : Below w.heap.size w w2 := hb1.grown hgrow2 hb1.size (fun k hk => (hown1.lt k hk).1)
 have hown3 : Hid (w2.ownsRow w.heap.size 5 1 v2 (2 + s.size) ((tx s).map (Value.int .u8))) := by
  unfold tx
  rw [List.map_append,<- strCells_sb]
  show World.ownsRow _ _ _ _ _ _ _
  simpa using hown2
 clear hgrow2 hown1 hb1 hown2
 go_wp2
 go_ret
 exact ⟨_,rfl,hown3,hb2⟩
def TxPost (s : ByteArray) (w : World) (e : Ending) (w' : World) : Prop :=
 ∃ v,e = .returned (.tuple #[v,.nilIface]) /\ Hid (w'.ownsRow w.heap.size 5 1 v (2 + s.size) ((tx s).map (Value.int .u8))) /\ Below w.heap.size w w'
def FaPost (n : Int) (w : World) (e : Ending) (w' : World) : Prop :=
 e = .returned (.tuple #[.slice none 0 0,.iface 149 (.pointer (some ⟨w.heap.size,0,none⟩))]) /\ w' = faultW n w
theorem chk_0 {l : List Int} (h : chk l = 0) : l.length <= 65535 := by
 unfold chk at h
 by_cases h1 : utf l = true
 ·rw [if_pos h1] at h
  by_cases h2 : l.length <= 65535
  ·exact h2
  ·rw [if_neg h2] at h; omega
 ·rw [if_neg h1] at h; omega
theorem put_ok (s : ByteArray) (w : World) (hc : chk (sb s) = 0) : Calls Tryz.prog 175 #[.string s] w (TxPost s w) := by
 have hs : s.size <= 65535 := by have := chk_0 hc; rw [sb_length] at this; exact this
 unfold TxPost
 have HC := zh hc
 clear hc
 go_enter Tryz.func175,Tryz.ntmps175
 go_wp2_with (first | (go_at_call 197; refine (check_ok s _ (by omega) (uh HC)).mono ?_; rintro e w' ⟨rfl,rfl⟩) | (go_at_call 198; refine (wl_any s _ hs).mono ?_; rintro e w' ⟨v,rfl,hown,hb⟩))
 go_ret2
 exact ⟨_,rfl,hown,hb⟩
theorem put_bad (s : ByteArray) (n : Int) (w : World) (hs : s.size <= 4611686018427387904) (hc : chk (sb s) = n) (hn : n ≠ 0) : Calls Tryz.prog 175 #[.string s] w (FaPost n w) := by
 unfold FaPost
 have HC := zh hc
 clear hc
 go_enter Tryz.func175,Tryz.ntmps175
 go_wp2_with (first | (go_at_call 197; refine (check_bad s n _ hs (uh HC) hn).mono ?_; rintro e w' ⟨rfl,rfl⟩))
 go_ret2
 exact ⟨rfl,rfl⟩
theorem putBin_ok (s : ByteArray) (w : World) (hs : s.size <= 65535) : Calls Tryz.prog 176 #[.string s] w (TxPost s w) := by
 unfold TxPost
 go_enter Tryz.func176,Tryz.ntmps176
 go_wp2_with (go_at_call 198; refine (wl_any s _ hs).mono ?_; rintro e w' ⟨v,rfl,hown,hb⟩)
 go_ret2
 exact ⟨_,rfl,hown,hb⟩
theorem putBin_bad (s : ByteArray) (w : World) (hs : 65535 < s.size) : Calls Tryz.prog 176 #[.string s] w (FaPost 2 w) := by
 unfold FaPost
 go_enter Tryz.func176,Tryz.ntmps176
 go_wp2_with (go_at_call 199; refine (fault_any _ _).mono ?_; rintro e w' ⟨rfl,rfl⟩)
 go_ret2
 exact ⟨rfl,rfl⟩
theorem tx_range (s : ByteArray) (hs : s.size <= 65535) : ∀ j,0 <= (tx s).getD j 0 /\ (tx s).getD j 0 <= 255 := by
 intro j
 unfold tx
 rcases j with _ | _ | j
 ·simp; omega
 ·simp; omega
 ·simpa using sb_range s j
end Go.Proofs.YtpoeakillimibaaGreatDoor
