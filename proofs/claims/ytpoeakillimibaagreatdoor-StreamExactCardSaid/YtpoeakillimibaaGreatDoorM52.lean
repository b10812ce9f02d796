/- Proved here: helpers, one text behind the other. -/
import Derived.Test.YtpoeakillimibaaGreatDoorZSFeed
import Derived.Test.YtpoeakillimibaaGreatDoorM51
set_option maxHeartbeats 20000000
namespace Go.Proofs.YtpoeakillimibaaGreatDoor.K
open Go.RowKit
set_option maxRecDepth 100000
theorem srun_stop {lim : Int} {l : List Int} {Ps : List Pa} {n : Nat} {m k : Int} (h : SRun lim l Ps n m) (hk : snum lim l = k) (h0 : k ≠ 0) : Ps = [] /\ n = 0 /\ m = k := by
 cases h with
 | stop _ _ => exact ⟨rfl,rfl,hk⟩
 | step _ _ _ _ _ _ hz _ _ => exact absurd (hk.symm.trans hz) h0
theorem srun_step {lim : Int} {l r : List Int} {P : Pa} {Ps : List Pa} {n : Nat} {m : Int} (h : SRun lim l Ps n m) (hk : snum lim l = 0) (hd : dbody l = some (P,r)) : ∃ Qs k,Ps = P :: Qs /\ n = (meas l).2.1 + k /\ SRun lim (l.drop (meas l).2.1) Qs k m := by
 cases h with
 | stop _ hz => exact absurd hk hz
 | step _ P' r' Qs k e _ hd' hr =>
  rw [hd] at hd'
  simp only [Option.some.injEq,Prod.mk.injEq] at hd'
  obtain ⟨rfl,rfl⟩ := hd'
  exact ⟨Qs,k,rfl,rfl,hr⟩
def pingP : Pa := pa0 12 false 0 false
theorem ping1 : snum 100 [192] = 3 := by decide +kernel
theorem ping2 : snum 100 [192,0] = 0 := by decide +kernel
theorem ping3 : dbody [192,0] = some (pingP,[]) := by kernel_rfl
theorem ping4 : (meas [192,0]).2.1 = 2 := by decide +kernel
theorem end3 (lim : Int) (h : 2 <= lim) : snum lim [] = 3 := by
 unfold snum
 rw [if_pos (by have : (smeas []).2 <= 2 := by decide +kernel
                omega)]
 decide +kernel
theorem num5 (v : Value) (n : Int) (w : World) (hg : Laid w) (hv : ErrX w v n) : Calls Tryz.prog 43 #[v] w fun e w' => e = .returned (.int .i64 n) /\ Below w.heap.size w w' := by
 have HG := zh hg
 have HV := zh hv
 clear hg hv
 go_enter Tryz.func43,Tryz.ntmps43
 go_wp2_with (go_at_call 63; refine (numx v n _ (uh HG) (uh HV)).mono ?_; rintro e w' ⟨rfl,hb⟩)
 go_ret
 exact ⟨rfl,hb⟩
theorem num5_nil (w : World) : Calls Tryz.prog 43 #[.nilIface] w fun e w' => e = .returned (.int .i64 0) /\ w' = w := by
 go_enter Tryz.func43,Tryz.ntmps43
 go_wp2_with (go_at_call 63; refine (num_nil _).mono ?_; rintro e w' ⟨rfl,rfl⟩)
 go_ret
 exact ⟨rfl,rfl⟩
theorem own0 {w : World} {B : Nat} {e : TypeId} {s : Nat} {v : Value} (h : w.ownsRow B e s v 0 []) : ∃ ao cap,v = .slice ao 0 cap /\ cap <= maxLen := by
 rcases h.2 with ⟨rfl,_⟩ | ⟨g,cap,cur,rfl,_,_,_,h2,_⟩
 ·exact ⟨none,0,rfl,by simp⟩
 ·exact ⟨_,cap,rfl,h2⟩
theorem rpk_none {w : World} {B : Nat} {q : Pkv} {k : Int} {d : Bool} {x : Int} {r : Bool} (h : Mean w B q (pa0 k d x r)) : RPk w q (pa0 k d x r) := by
 refine ⟨h.sc,?_,?_,?_,?_,?_,?_,?_⟩
 ·obtain ⟨ao,cap,e,hc⟩ := own0 h.props; exact ⟨ao,cap,e,.inl rfl⟩
 ·obtain ⟨ws,h1,h2,h3⟩ := h.wills
  have : ws = [] := List.length_eq_zero_iff.1 h2
  subst this
  obtain ⟨ao,cap,e,hc⟩ := own0 h1; exact ⟨ao,cap,e,⟨Nat.zero_le _,hc⟩,.inl rfl⟩
 ·obtain ⟨ao,cap,e,hc⟩ := own0 h.user; exact ⟨ao,cap,e,⟨Nat.zero_le _,hc⟩,.inl rfl⟩
 ·obtain ⟨ao,cap,e,hc⟩ := own0 h.pass; exact ⟨ao,cap,e,⟨Nat.zero_le _,hc⟩,.inl rfl⟩
 ·obtain ⟨ao,cap,e,hc⟩ := own0 h.subs; exact ⟨ao,cap,e,⟨Nat.zero_le _,hc⟩,.inl rfl⟩
 ·obtain ⟨ao,cap,e,hc⟩ := own0 h.filters; exact ⟨ao,cap,e,⟨Nat.zero_le _,hc⟩,.inl rfl⟩
 ·obtain ⟨ao,cap,e,hc⟩ := own0 h.codes; exact ⟨ao,cap,e,⟨Nat.zero_le _,hc⟩,.inl rfl⟩
theorem rpk_zero (w : World) (k : Int) (d : Bool) (x : Int) (r : Bool) : RPk w (pk0 k d x r) (pa0 k d x r) :=
 ⟨⟨rfl,rfl,rfl,rfl,rfl,rfl,rfl,rfl,rfl,rfl,rfl,rfl⟩,⟨none,0,rfl,.inl rfl⟩,⟨none,0,rfl,⟨Nat.le_refl _,by simp⟩,.inl rfl⟩,⟨none,0,rfl,⟨Nat.le_refl _,by simp⟩,.inl rfl⟩,⟨none,0,rfl,⟨Nat.le_refl _,by simp⟩,.inl rfl⟩,⟨none,0,rfl,⟨Nat.le_refl _,by simp⟩,.inl rfl⟩,⟨none,0,rfl,⟨Nat.le_refl _,by simp⟩,.inl rfl⟩,⟨none,0,rfl,⟨Nat.le_refl _,by simp⟩,.inl rfl⟩⟩
theorem str_new (w : World) (lim : Int) : Str (w.alloc (.cells #[.int .i64 lim,.slice none 0 0,.int .i64 0] 115)) w.heap.size lim 0 (.slice none 0 0) [] :=
 ⟨by simp,by simp,by simp,by simp,by simp,World.ownsRow_nil _ _ _ _,fun j => by simp⟩
theorem one_byt (x : Int) (h : 0 <= x /\ x <= 255) (w : World) : Byt (w.alloc (.cells #[.int .u8 x] 5)) (.slice (some ⟨w.heap.size,0,none⟩) 1 1) [x] := by
 refine ⟨_,1,rfl,⟨by simp,by unfold maxLen; simp⟩,?_,.inr ⟨w.heap.size,0,rfl,?_⟩⟩
 ·intro j; rcases j with _ | j <;> simp [h]
 ·intro j hj; rcases j with _ | j
  ·simp
  ·simp at hj
theorem FB.bel {B S : Nat} {row : Option Nat} {w0 w w' : World} (h : FB S row w w') (hb : Below B w0 w) (hB : B <= w.heap.size) (hS : B <= S) (hr : ∀ g,row = some g -> B <= g) : Below B w0 w' :=
 ⟨h.os.trans hb.os,h.tape.trans hb.tape,h.output.trans hb.output,Nat.le_trans hb.size h.size,fun k hk => (h.block k (by omega) (by omega) (fun e => by have := hr k e.symm; omega)).trans (hb.block k hk)⟩
theorem wakes5 (w : World) (hg : Laid w) : Calls Tryz.prog 47 #[] w fun e w' => e = .returned (.bool true) /\ Below w.heap.size w w' := by
 have hsl : slim 100 = 100 := by decide
 have HN := zh (snew_any 100 w)
 rw [hsl] at HN
 have HG := zh hg
 clear hsl hg
 go_enter Tryz.func47,Tryz.ntmps47
 go_wp2_with fail
 refine (uh HN).mono ?_
 rintro e w1 ⟨rfl,hw1⟩
 have HS1 : Hid (Str w1 w.heap.size 100 0 (.slice none 0 0) []) := by rw [hw1]; exact str_new w 100
 have HB1 : Hid (Below w.heap.size w w1) := by rw [hw1]; exact bal _ _
 clear hw1 HN
 have hs1 : w.heap.size <= w1.heap.size := (uh HB1).size
 have HS2 := zh ((uh HS1).below (w' := w1.alloc (.cells #[.int .u8 192] 5)) (bal _ _))
 have HB2 : Hid (Below w.heap.size w (w1.alloc (.cells #[.int .u8 192] 5))) := (uh HB1).alloc hs1 _
 have HY2 := zh (one_byt 192 (by decide) w1)
 have HG2 := zh ((uh HG).below (uh HB2) (uh HG).pos)
 clear HS1
 go_wp2_with fail
 refine (sfeed_ok w.heap.size 100 (.slice none 0 0) [] _ [192] _ (uh HG2) (uh HS2) (uh HY2) (by decide) (by decide)).mono ?_
 rintro e w3 ⟨v3,E3,qs3,Ps3,n3,m3,hv3,rfl,-,hrun3,-,hpk3,hres3,hown3,hfb3⟩
 obtain ⟨rfl,rfl,rfl⟩ := srun_stop (l := [192]) hrun3 ping1 (by decide)
 obtain ⟨rfl,hst3⟩ : E3 = .nilIface /\ Str w3 w.heap.size 100 0 hv3 [192] := by
  rcases hres3 with ⟨_,h1,h2⟩ | ⟨h1,_⟩
  ·exact ⟨h1,h2⟩
  ·exact absurd rfl h1
 obtain ⟨ao3,cap3,rfl,-⟩ := own0 (by have h := hpk3.row; have hl := hpk3.len; simp at hl; subst hl; exact h)
 have HB3 : Hid (Below w.heap.size w w3) := hfb3.bel (uh HB2) (uh HB2).size (Nat.le_refl _) (fun g e => by cases e)
 have HG3 := zh ((uh HG).below (uh HB3) (uh HG).pos)
 have HS3 := zh hst3
 have HR3 := zh (owns_blk hst3.row)
 clear hrun3 hpk3 hres3 hown3 hfb3 hst3 HS2 HB2 HY2 HG2
 have hs3 : w.heap.size <= w3.heap.size := (uh HB3).size
 have HS4 := zh ((uh HS3).below (w' := w3.alloc (.cells #[.int .u8 0] 5)) (bal _ _))
 have HB4 : Hid (Below w.heap.size w (w3.alloc (.cells #[.int .u8 0] 5))) := (uh HB3).alloc hs3 _
 have HY4 := zh (one_byt 0 (by decide) w3)
 have HG4 := zh ((uh HG).below (uh HB4) (uh HG).pos)
 clear HS3 HB3 HG3
 go_wp2_with fail
 refine (sfeed_ok w.heap.size 100 hv3 [192] _ [0] _ (uh HG4) (uh HS4) (uh HY4) (by decide) (by decide)).mono ?_
 rintro e w5 ⟨v5,E5,qs5,Ps5,n5,m5,hv5,rfl,-,hrun5,-,hpk5,hres5,-,hfb5⟩
 obtain ⟨Qs,k5,rfl,rfl,hrun6⟩ := srun_step (l := [192,0]) hrun5 ping2 ping3
 rw [ping4] at hrun6 hres5
 obtain ⟨rfl,rfl,rfl⟩ := srun_stop (l := []) hrun6 (end3 100 (by decide)) (by decide)
 obtain ⟨rfl,hst5⟩ : E5 = .nilIface /\ Str w5 w.heap.size 100 0 hv5 [] := by
  rcases hres5 with ⟨_,h1,h2⟩ | ⟨h1,_⟩
  ·exact ⟨h1,h2⟩
  ·exact absurd rfl h1
 obtain ⟨q,rfl⟩ : ∃ q,qs5 = [q] := List.length_eq_one_iff.1 hpk5.len
 have hmean := hpk5.mean 0 q pingP rfl rfl
 have HB5 : Hid (Below w.heap.size w w5) := hfb5.bel (uh HB4) (uh HB4).size (Nat.le_refl _) (fun g e => by have := (uh HR3) g e; omega)
 have HG5 := zh ((uh HG).below (uh HB5) (uh HG).pos)
 obtain ⟨g5,cap5,rfl,hr5⟩ : ∃ g cap,v5 = .slice (some ⟨g,0,none⟩) 1 cap /\ w5.rangeAt g 0 q.cells := by
  have hrow := hpk5.row
  rcases hrow.2 with ⟨_,h0⟩ | ⟨g,cap,cur,rfl,_⟩
  ·simp at h0
  ·refine ⟨g,cap,rfl,fun j v hj => ?_⟩
   have hj19 : j < 19 := by
    rcases Nat.lt_or_ge j 19 with h | h
    ·exact h
    ·rw [List.getElem?_eq_none (by show 19 <= j; exact h)] at hj; cases hj
   have := hrow.cellAt j (by simp; omega)
   rw [Nat.zero_add]
   rw [this]
   simpa using hj
 obtain ⟨aoh,caph,rfl,-⟩ := own0 hst5.row
 have HQ := zh (rpk_none hmean)
 have HR := zh hr5
 have c1 := hst5.c1
 have hSl : w.heap.size < w5.heap.size := cell_lt hst5.c0
 clear hrun5 hrun6 hpk5 hres5 hfb5 hst5 hmean hr5 HS4 HB4 HY4 HG4 HR3 hs3
 have HEQ : Hid (∀ W,Below w5.heap.size w5 W -> W.rangeAt w5.heap.size 0 (pk0 12 false 0 false).cells -> Calls Tryz.prog 44 #[.slice (some ⟨g5,0,none⟩) 1 cap5,.slice (some ⟨w5.heap.size,0,none⟩) 1 1] W fun e w' => e = .returned (.bool true) /\ Below W.heap.size W w') := fun W hW hr =>
  eqpks_same g5 0 w5.heap.size 0 1 cap5 1 (fun _ => q) (fun _ => pk0 12 false 0 false) (fun _ => pingP) W (by decide)
   (fun k hk => by obtain rfl : k = 0 := by omega
                   exact ⟨range_below (uh HR) hW,(uh HQ).below hW⟩)
   (fun k hk => by obtain rfl : k = 0 := by omega
                   exact ⟨hr,rpk_zero W 12 false 0 false⟩)
   (fun k _ => ⟨by decide,by decide,by decide⟩)
 go_wp2_with (first | (go_at_call 43; refine (num5_nil _).mono ?_; rintro e w6 ⟨rfl,hw6⟩; obtain rfl := hw6.symm; clear hw6))
 have HR6 := zh (pk_new w5 (pk0 12 false 0 false)).range
 refine ((uh HEQ) _ (bal _ _) (uh HR6)).mono ?_
 rintro e w7 ⟨rfl,hb7⟩
 have HB7 : Hid (Below w5.heap.size w5 w7) := Below.trans (bal _ _) (hb7.mono (by simp))
 have c7 : w7.cell? ⟨w.heap.size,1,none⟩ = some (.slice aoh 0 caph) := ((uh HB7).cell (p := ⟨w.heap.size,1,none⟩) hSl).trans c1
 clear hb7 HEQ HR6 HR HQ c1
 go_wp2_with (first | (go_at_call 45; refine (sheld_any w.heap.size aoh 0 caph _ c7).mono ?_; rintro e w8 ⟨rfl,hw8⟩; obtain rfl := hw8.symm; clear hw8))
 go_ret
 exact ⟨rfl,(uh HB5).trans ((uh HB7).mono (uh HB5).size)⟩
end Go.Proofs.YtpoeakillimibaaGreatDoor.K
