/- Proved here: stream's whole. Helper contracts. -/
import Derived.Test.YtpoeakillimibaaGreatDoorM32
import Derived.Maps.AppendAt
set_option maxHeartbeats 20000000
namespace Go.Proofs.YtpoeakillimibaaGreatDoor.K
open Go.RowKit
set_option maxRecDepth 100000
theorem infoPk : (Tryz.prog.info? 30).map (fun i => (i.zero,i.size,i.bytes)) = some (some (.agg pkz.cells.toArray),19,288) := by kernel_rfl
theorem pk_slice (a : Act) (dst : Option Tmp) (x : Operand) (ty : TypeId) (pos : String) (after : Array Edge) (q : Pkv) (hx : a.eval x = q.val) (w : World) :
  (execOp a.eval ⟨dst,.buildSlice 61 1 #[(0,x)],ty,pos,after,none⟩).run Tryz.prog w = .ok (.value (.slice (some ⟨w.heap.size,0,none⟩) 1 1)) (w.alloc (.cells q.cells.toArray 30)) := by
 unfold execOp
 simp only [List.map_toArray,List.map_cons,List.map_nil,hx]
 kernel_rfl
theorem pk_cells {w : World} {A : Nat} {q : Pkv} (h : Pk w A q) : ∀ j u,q.cells[j]? = some u -> w.cell? ((⟨A,0,none⟩ : Addr).add j) = some u := fun j u hu => by
 have k := h.range j u hu
 rw [Nat.zero_add] at k
 by_cases hj : j = 0
 ·subst hj; simpa [Addr.add] using k
 ·simpa [Addr.add,hj] using k
def WholePost (lim : Int) (L : List Int) (w : World) (e : Ending) (w' : World) : Prop :=
 ∃ (v : Value) (n : Nat) (E : Value) (qs : List Pkv) (Ps : List Pa) (m : Int),e = .returned (.tuple #[v,.int .i64 n,E]) /\ n <= L.length /\ Hid (SRun lim L Ps n m) /\ m ≠ 0 /\ Hid (Pks w' w.heap.size v qs Ps) /\ Hid (∃ d,d <= 3 /\ Er w' d E m) /\ Below w.heap.size w w'
theorem swhole_own (S : Nat) (lim : Int) (b off cap : Nat) (L : List Int) (w : World) (h : Byt w (.slice (some ⟨b,off,none⟩) L.length cap) L) (hS : w.cell? ⟨S,0,none⟩ = some (.int .i64 lim)) (hS1 : w.cell? ⟨S,1,none⟩ = some (.slice (some ⟨b,off,none⟩) L.length cap)) (hlim : 2 <= lim) (hLN : L.length <= 1073741824) :
  Calls Tryz.prog 80 #[.pointer (some ⟨S,0,none⟩)] w (WholePost lim L w) := by
 have hSl := cell_lt hS
 obtain ⟨i0,hi,hz0,hz1,hz2⟩ := info_parts infoPk
 obtain ⟨hcl,hcap⟩ : L.length <= cap /\ cap <= maxLen := by
  obtain ⟨ao',cap',e,k1,k2⟩ := h.form
  simp only [Value.slice.injEq] at e
  obtain ⟨_,_,rfl⟩ := e
  exact ⟨k1,k2⟩
 unfold maxLen at hcap
 have HH := zh h
 have HS := zh hS
 have HS1 := zh hS1
 generalize hN : L.length = N at hcl HH HS1 hLN
 have HN := zh hN
 clear h hS hS1 hN
 go_enter Tryz.func80,Tryz.ntmps80
 go_wp2
 go_loopw [2,3] (fun l0 n0 wr => ∃ (lv : Value) (qs : List Pkv) (Ps : List Pa) (k n : Nat),l0 = lv /\ n0 = .int .i64 n /\ n <= N /\ k <= n /\ Hid (qs.length = k) /\ Hid (Pks wr w.heap.size lv qs Ps) /\ Hid (∀ Ps' n' e',SRun lim (L.drop n) Ps' n' e' -> SRun lim L (Ps ++ Ps') (n + n') e') /\ Hid (Below w.heap.size w wr)) (fun _ n0 _ => N - (intOf n0).toNat)
 case atStart =>
  refine ⟨.slice none 0 0,[],[],0,0,rfl,rfl,Nat.zero_le _,Nat.le_refl _,rfl,Pks.nil _ _,fun Ps' n' e' h => ?_,Below.refl _ _⟩
  simpa using h
 case round =>
  obtain ⟨_,qs,Ps,k,n,rfl,rfl,hn,hk,HQ,HP,HR,HB⟩ := hrel
  have c1 : wr.cell? ⟨S,1,none⟩ = some (.slice (some ⟨b,off,none⟩) N cap) := ((uh HB).cell hSl).trans (uh HS1)
  have HY := zh (((uh HH).below (uh HB)).drop' n hn)
  have HC0 : Hid (wr.cell? ⟨S,0,none⟩ = some (.int .i64 lim)) := ((uh HB).cell hSl).trans (uh HS)
  have hsz := (uh HB).size
  by_cases hcn : cap = n
  ·obtain rfl : N = n := by omega
   subst hcn
   have HT : Hid (Byt wr (.slice (some ⟨b,off,none⟩) 0 0) (L.drop cap)) := by
    have k := uh HY
    rw [if_pos rfl,Nat.sub_self] at k
    exact k
   clear HY
   go_wp2_with fail
   refine (snext_any S lim _ (L.drop cap) wr (uh HT) (uh HC0) hlim).mono ?_
   rintro e w2 ⟨q,z,E,rfl,hcase,hb2⟩
   have HC := zh hcase
   have HB2 : Hid (Below w.heap.size w w2) := (uh HB).trans (hb2.mono hsz)
   have HP2 := zh ((uh HP).below hb2)
   clear hb2 hcase HB HP c1 HT HC0
   dsimp only
   iterate 13 go_step
   refine Go.Proofs.YtpoeakillimibaaGreatDoor.wpList_value rfl (spk_alloc _ _ _ _ _ _) ?_
   simp only [Act.put,List.setIfInBounds_toArray,List.set_cons_zero,List.set_cons_succ]
   refine Go.Proofs.YtpoeakillimibaaGreatDoor.wpList_skip rfl (spk_store _ _ _ _ _ _ _ q w2 rfl rfl) ?_
   simp only [Act.put]
   have hal : Below w2.heap.size w2 (w2.alloc (.cells q.cells.toArray 30)) := bal _ _
   have HK3 := zh (pk_new w2 q)
   have HB3 : Hid (Below w.heap.size w (w2.alloc (.cells q.cells.toArray 30))) := (uh HB2).trans (hal.mono (uh HB2).size)
   have HP3 := zh ((uh HP2).below hal)
   rcases uh HC with ⟨hm,hE⟩ | ⟨hm,hz,rfl,P,r,hd,hM⟩
   ·obtain ⟨d,hd,hE1⟩ := uh hE
    have HE3 : Hid (∃ d,d <= 3 /\ Er (w2.alloc (.cells q.cells.toArray 30)) d E (snum lim (L.drop cap))) := ⟨d,hd,hE1.below hal⟩
    obtain ⟨t,x,rfl⟩ := hE1.iface
    have HRR : Hid (SRun lim L Ps cap (snum lim (L.drop cap))) := by
     have k := (uh HR) [] 0 _ (SRun.stop _ hm)
     show SRun _ _ _ _ _
     simpa using k
    have HMM := zh hm
    have HNL : Hid (cap <= L.length) := by show _ <= _; rw [uh HN]; exact hn
    clear hE1 hE hal hd hm HC HP2 HB2 HK3 HR
    generalize w2.alloc (.cells q.cells.toArray 30) = w3 at HB3 HP3 HE3 |-
    go_wp2
    go_returns
    exact ⟨_,cap,_,qs,Ps,_,rfl,uh HNL,HRR,uh HMM,HP3,HE3,uh HB3⟩
   ·have hzz := snum_meas hm
    rw [List.length_drop,uh HN] at hzz
    omega
  ·have HT : Hid (Byt wr (.slice (some ⟨b,off + n,none⟩) (N - n) (cap - n)) (L.drop n)) := by
    have k := uh HY
    rw [if_neg hcn] at k
    exact k
   clear HY
   go_wp2_with fail
   refine (snext_any S lim _ (L.drop n) wr (uh HT) (uh HC0) hlim).mono ?_
   rintro e w2 ⟨q,z,E,rfl,hcase,hb2⟩
   have HC := zh hcase
   have HB2 : Hid (Below w.heap.size w w2) := (uh HB).trans (hb2.mono hsz)
   have HP2 := zh ((uh HP).below hb2)
   have HF := zh (fun P => (uh HP).fresh (w2 := w2) q P)
   clear hb2 hcase HB HP c1 HT HC0
   dsimp only
   iterate 13 go_step
   refine Go.Proofs.YtpoeakillimibaaGreatDoor.wpList_value rfl (spk_alloc _ _ _ _ _ _) ?_
   simp only [Act.put,List.setIfInBounds_toArray,List.set_cons_zero,List.set_cons_succ]
   refine Go.Proofs.YtpoeakillimibaaGreatDoor.wpList_skip rfl (spk_store _ _ _ _ _ _ _ q w2 rfl rfl) ?_
   simp only [Act.put]
   have hal : Below w2.heap.size w2 (w2.alloc (.cells q.cells.toArray 30)) := bal _ _
   have HK3 := zh (pk_new w2 q)
   have HB3 : Hid (Below w.heap.size w (w2.alloc (.cells q.cells.toArray 30))) := (uh HB2).trans (hal.mono (uh HB2).size)
   have HP3 := zh ((uh HP2).below hal)
   rcases uh HC with ⟨hm,hE⟩ | ⟨hm,hz,rfl,P,r,hd,hM⟩
   ·obtain ⟨d,hd,hE1⟩ := uh hE
    have HE3 : Hid (∃ d,d <= 3 /\ Er (w2.alloc (.cells q.cells.toArray 30)) d E (snum lim (L.drop n))) := ⟨d,hd,hE1.below hal⟩
    obtain ⟨t,x,rfl⟩ := hE1.iface
    have HRR : Hid (SRun lim L Ps n (snum lim (L.drop n))) := by
     have k := (uh HR) [] 0 _ (SRun.stop _ hm)
     show SRun _ _ _ _ _
     simpa using k
    have HMM := zh hm
    have HNL : Hid (n <= L.length) := by show _ <= _; rw [uh HN]; exact hn
    clear hE1 hE hal hd hm HC HP2 HB2 HK3 HR
    generalize w2.alloc (.cells q.cells.toArray 30) = w3 at HB3 HP3 HE3 |-
    go_wp2
    go_returns
    exact ⟨_,n,_,qs,Ps,_,rfl,uh HNL,HRR,uh HMM,HP3,HE3,uh HB3⟩
   ·have hzz := snum_meas hm
    rw [<- hz,List.length_drop,uh HN] at hzz
    have HR2 : Hid (∀ Ps' n' e',SRun lim (L.drop (n + z)) Ps' n' e' -> SRun lim L ((Ps ++ [P]) ++ Ps') (n + z + n') e') := fun Ps' n' e' h => by
     have k := (uh HR) (P :: Ps') (z + n') e' (by rw [hz]; exact SRun.step _ P r Ps' n' e' hm hd (by rw [<- hz,List.drop_drop]; exact h))
     rw [List.append_assoc,Nat.add_assoc]
     exact k
    have HM3 : Hid (Mean (w2.alloc (.cells q.cells.toArray 30)) w.heap.size q P) := ((uh hM).base hsz).below hal
    have HFR := zh ((uh HF) P (uh hM))
    have hw2 := (uh HB2).size
    have hw3 : w2.heap.size < (w2.alloc (.cells q.cells.toArray 30)).heap.size := by simp
    clear hm hz hd hM hal HC HP2 HB2 HR HF
    generalize w2.alloc (.cells q.cells.toArray 30) = w3 at HB3 HP3 HM3 HK3 hw3 |-
    go_upto_region 4 with fail
    iterate 4 go_step
    refine wpList_load_mid rfl 30 _ rfl w2.heap.size 0 rfl q.cells _ (uh HK3).range Tryz.underlying30 rfl packet_size ?_
    simp only [Act.put,List.setIfInBounds_toArray,List.set_cons_zero,List.set_cons_succ]
    refine Go.Proofs.YtpoeakillimibaaGreatDoor.wpList_value rfl (pk_slice _ _ _ _ _ _ q rfl _) ?_
    simp only [Act.put,List.setIfInBounds_toArray,List.set_cons_zero,List.set_cons_succ]
    have hal : Below w3.heap.size w3 (w3.alloc (.cells q.cells.toArray 30)) := bal _ _
    have HK4 := zh (pk_new w3 q)
    have HB4 : Hid (Below w.heap.size w (w3.alloc (.cells q.cells.toArray 30))) := (uh HB3).trans (hal.mono (uh HB3).size)
    have HP4 := zh ((uh HP3).below hal)
    have HM4 := zh ((uh HM3).below hal)
    have hw4 : w3.heap.size < (w3.alloc (.cells q.cells.toArray 30)).heap.size := by simp
    clear hal HK3 HB3 HP3 HM3
    generalize hG : w3.alloc (.cells q.cells.toArray 30) = w4 at HB4 HP4 HM4 HK4 hw4 |-
    clear hG
    refine wpList_append_own _ rfl _ _ 61 rfl w.heap.size 30 i0 _ 19 288 Tryz.underlying61 hi hz0 hz1 hz2 rfl (by decide) u2 qs.length _ rfl (uh HP4).row ⟨w3.heap.size,0,none⟩ 1 1 q.cells rfl rfl (pk_cells (uh HK4)) q.ones (by rw [uh HQ]; unfold maxLen; omega) (by rw [uh HQ]; omega) (by omega) ?_
    intro v5 w5 hown5 hgrow5 _
    have HP5 := zh ((uh HP4).app (uh HM4) (uh HFR) hgrow5 hown5)
    have HB5 : Hid (Below w.heap.size w w5) := (uh HB4).grown hgrow5 (by omega) (fun g hg => ((uh HP4).blk g hg).1)
    have HQ5 : Hid ((qs ++ [q]).length = k + 1) := by show _ = _; rw [List.length_append,uh HQ]; rfl
    clear hown5 hgrow5 HB4 HP4 HM4 HK4 HQ
    simp only [Act.put,List.setIfInBounds_toArray,List.set_cons_zero,List.set_cons_succ]
    go_wp2
    go_roundw
    case rel => exact ⟨_,qs ++ [q],Ps ++ [P],k + 1,n + z,rfl,by go_num,by omega,by omega,HQ5,HP5,HR2,HB5⟩
    case measure => simp [intOf]; omega
theorem snum_nil (lim : Int) (hlim : 2 <= lim) : snum lim [] = 3 := by
 unfold snum
 rw [show smeas [] = (0,0) from rfl,if_pos (by omega)]
 rfl
theorem swhole_nil (S : Nat) (lim : Int) (w : World) (hS : w.cell? ⟨S,0,none⟩ = some (.int .i64 lim)) (hS1 : w.cell? ⟨S,1,none⟩ = some (.slice none 0 0)) (hlim : 2 <= lim) :
  Calls Tryz.prog 80 #[.pointer (some ⟨S,0,none⟩)] w (WholePost lim [] w) := by
 have HS := zh hS
 have HY : Hid (Byt w (.slice none 0 0) []) := ⟨none,0,rfl,by simp,fun j => by simp,.inl rfl⟩
 obtain ⟨L,hL⟩ : ∃ L : List Int,L = [] := ⟨_,rfl⟩
 rw [<- hL] at HY |-
 have HSN : Hid (snum lim L = 3) := by rw [hL]; exact snum_nil lim hlim
 clear hS hL
 go_enter Tryz.func80,Tryz.ntmps80
 go_wp2
 refine wp_loop_rounds 1 ?_
 rw [rounds_succ]
 go_wp2_with fail
 refine (snext_any S lim _ L w (uh HY) (uh HS) hlim).mono ?_
 rintro e w2 ⟨q,z,E,rfl,hcase,hb2⟩
 have HC := zh hcase
 clear hcase
 dsimp only
 iterate 13 go_step
 refine Go.Proofs.YtpoeakillimibaaGreatDoor.wpList_value rfl (spk_alloc _ _ _ _ _ _) ?_
 simp only [Act.put,List.setIfInBounds_toArray,List.set_cons_zero,List.set_cons_succ]
 refine Go.Proofs.YtpoeakillimibaaGreatDoor.wpList_skip rfl (spk_store _ _ _ _ _ _ _ q w2 rfl rfl) ?_
 simp only [Act.put]
 have hal : Below w2.heap.size w2 (w2.alloc (.cells q.cells.toArray 30)) := bal _ _
 have HB3 : Hid (Below w.heap.size w (w2.alloc (.cells q.cells.toArray 30))) := hb2.trans (hal.mono hb2.size)
 rcases uh HC with ⟨hm,hE⟩ | ⟨hm,_⟩
 ·obtain ⟨d,hd,hE1⟩ := uh hE
  have HE3 : Hid (∃ d,d <= 3 /\ Er (w2.alloc (.cells q.cells.toArray 30)) d E (snum lim L)) := ⟨d,hd,hE1.below hal⟩
  obtain ⟨t,x,rfl⟩ := hE1.iface
  have HRR : Hid (SRun lim L [] 0 (snum lim L)) := SRun.stop _ hm
  have HMM := zh hm
  clear hE1 hE hal hd hm HC hb2
  generalize w2.alloc (.cells q.cells.toArray 30) = w3 at HB3 HE3 |-
  go_wp2
  go_returns
  exact ⟨_,0,_,[],[],_,rfl,Nat.zero_le _,HRR,uh HMM,Pks.nil _ _,HE3,uh HB3⟩
 ·rw [uh HSN] at hm
  exact absurd hm (by decide)
end Go.Proofs.YtpoeakillimibaaGreatDoor.K
