/- Proved here: properties' bytes, whatever stands behind, are read as them; each beginning is short: plain facts. -/
import Derived.Test.YtemedclhglkfjaaGreatDoorM33
import Derived.Test.YtemedclhglkfjaaGreatDoorM17
import Derived.Test.YtemedclhglkfjaaGreatDoorM21
namespace Go.Proofs.YtemedclhglkfjaaGreatDoor
open Go.RowKit
set_option maxRecDepth 100000
theorem emp_eq {s : ByteArray} (h : emp s = true) : s = es := by
 have h1 : s.toList = [] := List.isEmpty_iff.1 h
 exact toList_inj (h1.trans (by decide +kernel))
theorem gbn_tx (s : ByteArray) (l : List Int) (h : s.size <= 65535) : gbn (tx s ++ l) = (s,((2 + s.size : Nat) : Int),0) := by
 have hn := nb_tx s l
 have hf : full (tx s ++ l) = true := by
  unfold full
  rw [hn,Bool.and_eq_true,decide_eq_true_eq,decide_eq_true_eq,List.length_append,tx_length]
  omega
 unfold gbn
 rw [if_pos hf,gbs_tx,hn]
theorem vget_put' (x : Int) (h0 : 0 <= x) (h1 : x <= 268435455) (l : List Int) : V.vget (V.put x ++ l) = (x,((V.put x).length : Int),0) := by
 rw [V.vget_put x h0 h1 l,V.put_length]
theorem be_nbs (k n : Int) (hk : k = 1 \/ k = 2 \/ k = 4) (r : List Int) : be k (nbs k n ++ r) = n := by
 rcases hk with rfl | rfl | rfl
 ·unfold be nbs
  simp
 ·unfold be nbs
  simp
  omega
 ·unfold be nbs
  simp
  omega
theorem nbs_len (k n : Int) (hk : k = 1 \/ k = 2 \/ k = 4) : ((nbs k n).length : Int) = k := by
 rcases hk with rfl | rfl | rfl <;> unfold nbs <;> simp
theorem gval_back (id n : Int) (s t : ByteArray) (hm : may (id,n,s,t) = true) (r : List Int) : gval (kd id) (pvb (id,n,s,t) ++ r) = (true,n,s,t,(pvb (id,n,s,t)).length) := by
 have hm0 := hm
 unfold may at hm
 rw [Bool.and_eq_true] at hm
 obtain ⟨hf,ht⟩ := hm
 obtain ⟨h0,h1,h2⟩ := fit_num hf
 have hx : mx id = (if kd id = 1 then 1 else if kd id = 2 then 65535 else if kd id = 4 then 4294967295 else if kd id = 5 then 268435455 else 0) := rfl
 unfold fit at hf
 simp only [Bool.and_eq_true] at hf
 have hfe := hf.2
 clear hf
 have num : ∀ k : Int,kd id = k -> (k = 1 \/ k = 2 \/ k = 4) -> gval (kd id) (pvb (id,n,s,t) ++ r) = (true,n,s,t,(pvb (id,n,s,t)).length) := fun k h hk => by
  rw [if_neg (by omega),if_neg (by omega),Bool.and_eq_true] at hfe
  obtain rfl := emp_eq hfe.1
  obtain rfl := emp_eq hfe.2
  rw [pvb_num id n _ _ k h hk,h]
  unfold gval
  rw [if_pos hk,be_nbs k n hk r]
  have hl := nbs_len k n hk
  rw [decide_eq_true (by rw [List.length_append]; omega),show k.toNat = (nbs k n).length from by omega]
 rcases kd_cases id with h | h | h | h | h | h | h | h
 ·unfold txo at ht; simp [h] at ht
 ·exact num 1 h (by omega)
 ·exact num 2 h (by omega)
 ·exact num 4 h (by omega)
 ·rw [if_neg (by omega),if_neg (by omega),Bool.and_eq_true] at hfe
  obtain rfl := emp_eq hfe.1
  obtain rfl := emp_eq hfe.2
  rw [if_neg (by omega),if_neg (by omega),if_neg (by omega),if_pos h] at hx
  rw [show pvb (id,n,es,es) = V.put n from by unfold pvb; simp [h],h]
  unfold gval
  rw [if_neg (by omega),if_pos rfl,vget_put' n h0 (by omega) r]
  simp
 ·rw [if_neg (by omega),if_pos (by omega)] at hfe
  obtain rfl := emp_eq hfe
  rw [if_neg (by omega),if_neg (by omega),if_neg (by omega),if_neg (by omega)] at hx
  have hn0 : n = 0 := by omega
  subst hn0
  have hc : chk (sb s) = 0 := by unfold txo at ht; simpa [h] using ht
  rw [show pvb (id,0,s,es) = tx s from by unfold pvb; simp [h],h]
  unfold gval
  rw [if_neg (by omega),if_neg (by omega),if_pos rfl,gt_tx s r hc]
  simp only [decide_true,Int.toNat_natCast,tx_length]
 ·rw [if_neg (by omega),if_pos (by omega)] at hfe
  obtain rfl := emp_eq hfe
  rw [if_neg (by omega),if_neg (by omega),if_neg (by omega),if_neg (by omega)] at hx
  have hn0 : n = 0 := by omega
  subst hn0
  have hc : s.size <= 65535 := by unfold txo at ht; simpa [h] using ht
  rw [show pvb (id,0,s,es) = tx s from by unfold pvb; simp [h],h]
  unfold gval
  rw [if_neg (by omega),if_neg (by omega),if_neg (by omega),if_pos rfl,gbn_tx s r hc]
  simp only [decide_true,Int.toNat_natCast,tx_length]
 ·rw [if_neg (by omega),if_neg (by omega),if_neg (by omega),if_neg (by omega)] at hx
  have hn0 : n = 0 := by omega
  subst hn0
  have hc : chk (sb s) = 0 /\ chk (sb t) = 0 := by unfold txo at ht; simpa [h] using ht
  rw [show pvb (id,0,s,t) = tx s ++ tx t from by unfold pvb; simp [h],h,List.append_assoc]
  have e1 := gt_tx s (tx t ++ r) hc.1
  have e2 : gt (List.drop (2 + s.size) (tx s ++ (tx t ++ r))) = (t,((2 + t.size : Nat) : Int),0) := by
   rw [show 2 + s.size = (tx s).length from (tx_length s).symm,List.drop_left]
   exact gt_tx t r hc.2
  unfold gval
  rw [if_neg (by omega),if_neg (by omega),if_neg (by omega),if_neg (by omega),if_pos rfl]
  simp only [e1,Int.toNat_natCast,e2,decide_true,Bool.and_true,List.length_append,tx_length]
def okp (p : Pr) : Prop := may p = true /\ 1 <= p.1 /\ p.1 <= 42
theorem one_back (p : Pr) (h : okp p) (r : List Int) : gok (pb p ++ r) = true /\ gpr (pb p ++ r) = p /\ gsz (pb p ++ r) = (pb p).length := by
 obtain ⟨id,n,s,t⟩ := p
 obtain ⟨hm,h1,h2⟩ := h
 simp only at h1 h2
 have hv : V.vget (pb (id,n,s,t) ++ r) = (id,((V.put id).length : Int),0) := by
  unfold pb
  rw [List.append_assoc]
  exact vget_put' id (by omega) (by omega) _
 have hd : (pb (id,n,s,t) ++ r).drop (V.put id).length = pvb (id,n,s,t) ++ r := by
  unfold pb
  rw [List.append_assoc]
  exact List.drop_left
 have hg : grs (pb (id,n,s,t) ++ r) = (true,n,s,t,(pvb (id,n,s,t)).length) := by
  unfold grs gid ghd
  rw [hv]
  simp only [Int.toNat_natCast]
  rw [hd]
  exact gval_back id n s t hm r
 unfold gok gpr gsz gid ghd
 rw [hg,hv]
 refine ⟨rfl,rfl,?_⟩
 simp only [Int.toNat_natCast]
 unfold pb
 rw [List.length_append]
theorem parse_back (l : List Pr) (h : ∀ p ∈ l,okp p) (hr : Rng (body l)) : parse (body l) = some l := by
 induction l with
 | nil => exact parse_nil
 | cons p l ih =>
  have hb : body (p :: l) = pb p ++ body l := rfl
  rw [hb] at hr |-
  obtain ⟨a,b,c⟩ := one_back p (h p (by simp)) (body l)
  have hl := (pb_le p (h p (by simp)).1).1
  have hd : (pb p ++ body l).drop (pb p).length = body l := List.drop_left
  have hr2 : Rng (body l) := by have := hr.drop (pb p).length; rw [hd] at this; exact this
  rw [parse_yes _ (by intro e; have := congrArg List.length e; rw [List.length_append,List.length_nil] at this; omega) hr a,b,c,hd,ih (fun q hq => h q (by simp [hq])) hr2]
  rfl
theorem okp_of_chk {place : Int} {l : List Pr} (h : okTo place l l.length) : ∀ p ∈ l,okp p := fun p hp => by
 obtain ⟨i,hi,rfl⟩ := List.mem_iff_getElem.1 hp
 have e : at0 l i = l[i] := by unfold at0; rw [List.getD_eq_getElem?_getD,List.getElem?_eq_getElem hi]; rfl
 obtain ⟨a,b⟩ := okAt_may (h i hi)
 have := id_range _ _ b
 rw [e] at a this
 exact ⟨a,this⟩
theorem body_bound (place : Int) (l : List Pr) (h : okTo place l l.length) (hl : l.length <= 32) : (body l).length <= 268435455 := by
 have := body_le l place l.length (Nat.le_refl _) h
 rw [List.take_length] at this
 omega
theorem back_pgt (place q : Int) (l : List Pr) (t : List Int) (h : okTo place l l.length) (hl : l.length <= 32) (hr : Rng (pbs l)) : pgt q (pbs l ++ t) = chkP q l /\ (chkP q l = 0 -> plist q (pbs l ++ t) = l /\ psz q (pbs l ++ t) = ((pbs l).length : Int)) := by
 have hb := body_bound place l h hl
 have hv : V.vget (pbs l ++ t) = (((body l).length : Int),((V.put ((body l).length : Int)).length : Int),0) := by
  unfold pbs
  rw [List.append_assoc]
  exact vget_put' _ (by omega) (by omega) _
 have hd : (pbs l ++ t).drop (V.put ((body l).length : Int)).length = body l ++ t := by
  unfold pbs
  rw [List.append_assoc]
  exact List.drop_left
 have hrb : Rng (body l) := by
  have := hr.drop (V.put ((body l).length : Int)).length
  unfold pbs at this
  rw [List.drop_left] at this
  exact this
 have e1 : gid (pbs l ++ t) = ((body l).length : Int) := by unfold gid; rw [hv]
 have e2 : ghd (pbs l ++ t) = (V.put ((body l).length : Int)).length := by unfold ghd; rw [hv]; simp
 have e3 : pbd (pbs l ++ t) = body l := by
  unfold pbd
  rw [e1,e2,hd,Int.toNat_natCast,List.take_left]
 have hp := parse_back l (okp_of_chk h) hrb
 have hg : pgt q (pbs l ++ t) = chkP q l := by
  unfold pgt
  rw [hv,if_neg (by simp),if_neg (by rw [e1,e2,Int.toNat_natCast]; unfold pbs; rw [List.length_append,List.length_append]; omega),e3]
  exact rdn_some q _ l hp
 refine ⟨hg,fun h0 => ?_⟩
 unfold plist psz
 rw [if_pos (by rw [hg]; exact h0),if_pos (by rw [hg]; exact h0),e3,hp,e1,e2,Int.toNat_natCast]
 refine ⟨rfl,?_⟩
 unfold pbs
 rw [List.length_append]
 omega
end Go.Proofs.YtemedclhglkfjaaGreatDoor
