/- Proved here: helpers, one text behind the other. -/
import Derived.Test.YtemedclhglkfjaaGreatDoorA1
import Derived.Test.YtemedclhglkfjaaGreatDoorA2
import Derived.Test.YtemedclhglkfjaaGreatDoorB1
import Derived.Test.YtemedclhglkfjaaGreatDoorB2
set_option maxHeartbeats 20000000
namespace Go.Proofs.YtemedclhglkfjaaGreatDoor.K.W
open Go.RowKit
open Go.Proofs.YtemedclhglkfjaaGreatDoor.K
set_option maxRecDepth 100000
structure Sm (P : Pa) : Prop where
 user : P.user.length <= 8000
 pass : P.pass.length <= 8000
 filters : P.filters.length <= 8000
 codes : P.codes.length <= 80000
def Hs (c : Bool) (P : Pa) : Prop := c = false -> Sm P
def HvPost (P : Pa) (w : World) (e : Ending) (w' : World) : Prop := ∃ bo : Bool,e = .returned (.bool bo) /\ Hid (Hs bo P) /\ Below w.heap.size w w'
theorem hv_any (q : Pkv) (P : Pa) (w : World) (hR : RPk w q P) (hU : Ub P) : Calls Tryz.prog 5 #[q.val] w (HvPost P w) := by
 have HW : Hid (∀ W,Below w.heap.size w W -> Calls Tryz.prog 6 #[.agg q.cells.toArray] W (WtPost P W)) := fun W hW => wt_any q P W (hR.below hW) hU
 have HBA : Hid (Below w.heap.size w (w.alloc (.cells q.cells.toArray 30))) := bal _ _
 have HP := zh (pk_new w q)
 have m7 : q.props.n <= 1048576 := by rw [hR.cnt.ns.1]; exact hU.props.1
 clear hR hU
 go_enter Tryz.func5,Tryz.ntmps5
 go_upto_region 1 with fail
 change Code.wp _ _ _ _ (w.alloc (.cells q.cells.toArray 30))
 generalize w.alloc (.cells q.cells.toArray 30) = wa at HBA HP |-
 go_step
 refine wpList_load_mid rfl 30 _ rfl w.heap.size 0 rfl q.cells _ (uh HP).range Tryz.underlying30 rfl packet_size ?_
 simp only [Act.put,List.setIfInBounds_toArray,List.set_cons_zero,List.set_cons_succ]
 go_wp2_with fail
 refine ((uh HW) wa (uh HBA)).mono ?_
 rintro e w2 ⟨N,rfl,hN1,hN2,hb2⟩
 have c7 := ((uh HP).below hb2).props
 have HB2 : Hid (Below w.heap.size w w2) := bnk (uh HBA) hb2
 have HSM : Hid (¬ 80000 < N -> Sm P) := fun h => ⟨by omega,by omega,by omega,by omega⟩
 clear hN1 hb2 HP
 by_cases h8 : 80000 < N
 ·go_wp2
  go_ret
  exact ⟨_,rfl,(fun h => by cases h),uh HB2⟩
 ·by_cases h2 : 200 < q.props.n
  ·go_wp2
   go_ret
   exact ⟨_,rfl,(fun _ => (uh HSM) h8),uh HB2⟩
  ·go_wp2
   go_ret
   exact ⟨_,rfl,(fun _ => (uh HSM) h8),uh HB2⟩
theorem small_of {l : List Pr} (h : UbP l) : Go.Proofs.YtemedclhglkfjaaGreatDoor.Small l := fun k hk => by have := h.2 k hk; omega
theorem big_of {P : Pa} (h : Ok P) (s : Sm P) : Big P := by
 have hu := h.ub
 refine ⟨h.nums,⟨by have := hu.texts; omega,by have := hu.texts; omega,by have := hu.texts; omega⟩,⟨by have := h.props; omega,by have := h.wills; omega,by have := s.user; omega,by have := s.pass; omega,by have := h.subs; omega,by have := s.filters; omega,by have := s.codes; omega⟩,small_of hu.props,fun k hk => ?_,fun k hk => by have := hu.user.2 k hk; omega,fun k hk => by have := hu.subs.2 k hk; omega,fun k hk => by have := hu.filters.2 k hk; omega,h.codes⟩
 obtain ⟨h1,h2,h3⟩ := hu.wills.2 k hk
 exact ⟨by omega,by have := h.wprops k hk; omega,small_of h3⟩
theorem sml_of {P : Pa} (h : Ok P) : Small P := ⟨by have := h.props; omega,by have := h.wills; omega,by have := h.subs; omega⟩
theorem ErP.xx {w : World} {E : Value} {n : Int} (h : ErP w E n) : ErrX w E n := by
 obtain ⟨x,d,_,hd,he⟩ := h
 exact .inr ⟨d,hd,he⟩
end Go.Proofs.YtemedclhglkfjaaGreatDoor.K.W
namespace Go.Proofs.YtemedclhglkfjaaGreatDoor.K.B
open Go.RowKit
open Go.Proofs.YtemedclhglkfjaaGreatDoor.K
set_option maxRecDepth 100000
theorem scs_get (d : List Sb) : ∀ (i : Nat) (u : Sb),d[i]? = some u -> ∀ j,j < 5 -> (scs d)[i * 5 + j]? = u.cells[j]? := by
 induction d with
 | nil => intro i u h; simp at h
 | cons v us ih =>
  intro i u h j hj
  cases i with
  | zero =>
   simp at h
   subst h
   unfold scs
   rw [List.flatMap_cons,Nat.zero_mul,Nat.zero_add,List.getElem?_append_left (by simp [Sb.cells]; omega)]
  | succ i =>
   simp at h
   have := ih i u h j hj
   unfold scs at *
   rw [List.flatMap_cons,List.getElem?_append_right (by simp [Sb.cells]; omega),<- this]
   congr 1
   simp [Sb.cells]
   omega
theorem row_form {w : World} {B : Nat} {e : TypeId} {s : Nat} {v : Value} {n : Nat} {xs : List Value} (h : w.ownsRow B e s v n xs) : ∃ ao cap,v = .slice ao n cap /\ (n <= cap /\ cap <= maxLen) /\ (n = 0 \/ ∃ b,ao = some ⟨b,0,none⟩ /\ ∀ j,j < n * s -> w.cell? ⟨b,j,none⟩ = xs[j]?) := by
 have hl := h.1
 rcases h.2 with ⟨rfl,rfl⟩ | ⟨g,cap,cur,rfl,hB,hg,h1,h2,h3,h4⟩
 ·exact ⟨none,0,rfl,⟨Nat.le_refl _,by simp⟩,.inl rfl⟩
 ·exact ⟨_,cap,rfl,⟨h1,h2⟩,.inr ⟨g,rfl,fun j hj => h.cellAt j hj⟩⟩
theorem sbs_of_owns {w : World} {B : Nat} {e : TypeId} {v : Value} {l : List Sb} (h : w.ownsRow B e 5 v l.length (scs l)) : Sbs w v l := by
 obtain ⟨ao,cap,rfl,hc,h0 | ⟨b,rfl,hcell⟩⟩ := row_form h
 ·exact ⟨ao,cap,rfl,hc,.inl (List.length_eq_zero_iff.1 h0)⟩
 ·refine ⟨_,cap,rfl,hc,.inr ⟨b,0,rfl,fun k hk => ?_⟩⟩
  have hu : l[k]? = some (l.getD k sb0) := by rw [List.getD_eq_getElem?_getD,List.getElem?_eq_getElem hk]; rfl
  have key : ∀ j,j < 5 -> w.cell? ⟨b,k * 5 + j,none⟩ = (l.getD k sb0).cells[j]? := fun j hj => (hcell (k * 5 + j) (by omega)).trans (scs_get l k _ hu j hj)
  simp only [Nat.zero_add]
  exact ⟨key 0 (by omega),key 1 (by omega),key 2 (by omega),key 3 (by omega),key 4 (by omega)⟩
theorem wls_of {w : World} {B : Nat} {v : Value} {ws : List Wv} {us : List Wl} (h : w.ownsRow B 52 5 v us.length (wcs ws)) (hw : Ws w B ws us) (hl : ∀ u ∈ us,u.props.length <= 32) : Wls w v us := by
 obtain ⟨ao,cap,rfl,hc,h0 | ⟨b,rfl,hcell⟩⟩ := row_form h
 ·exact ⟨ao,cap,rfl,hc,.inl (List.length_eq_zero_iff.1 h0)⟩
 ·refine ⟨_,cap,rfl,hc,.inr ⟨b,0,rfl,fun k hk => ?_⟩⟩
  obtain ⟨a,ha⟩ : ∃ a,ws[k]? = some a := ⟨_,List.getElem?_eq_getElem (by rw [hw.1]; exact hk)⟩
  have hu : us[k]? = some (us.getD k wl0) := by rw [List.getD_eq_getElem?_getD,List.getElem?_eq_getElem hk]; rfl
  obtain ⟨e1,e2,e3,e4,e5⟩ := hw.2 k a _ ha hu
  have key : ∀ j,j < 5 -> w.cell? ⟨b,k * 5 + j,none⟩ = a.cells[j]? := fun j hj => (hcell (k * 5 + j) (by omega)).trans (wcs_get ws k a ha j hj)
  have hm : us.getD k wl0 ∈ us := List.mem_of_getElem? hu
  rw [Nat.zero_add]
  refine ⟨a.props.ao,a.props.n,a.props.cap,⟨?_,?_,?_,?_,key 4 (by omega)⟩,prp_of_owns e5,by have := hl _ hm; omega⟩
  ·rw [<- e1]; exact key 0 (by omega)
  ·rw [<- e2]; exact key 1 (by omega)
  ·rw [<- e3]; exact key 2 (by omega)
  ·rw [<- e4]; exact key 3 (by omega)
theorem mean_rpk {w : World} {B : Nat} {q : Pkv} {P : Pa} (h : Mean w B q P) (hl : Md P) : RPk w q P := by
 obtain ⟨ws,h1,h2⟩ := h.wills
 exact ⟨h.sc,prp_of_owns h.props,wls_of h1 h2 (fun u hu => (hl.wills2 u hu).2.1),txs_of_owns h.user,txs_of_owns h.pass,sbs_of_owns h.subs,txs_of_owns h.filters,nms_of_owns h.codes⟩
def pbt (P : Pa) (l : List Int) : List Int := ebytes P.kind (fkA P).1 l
structure Tl (P : Pa) (l : List Int) : Prop where
 ok : (fkA P).2 = true
 body : eb P = some l
 len : (pbt P l).length <= 65536
 rng : Rng (pbt P l)
theorem Tl.lrng {P : Pa} {l : List Int} (h : Tl P l) : Rng l := rng_r h.rng
def EnPost (P : Pa) (w : World) (e : Ending) (w' : World) : Prop :=
 Below w.heap.size w w' /\ ((∃ x m,e = .returned (.tuple #[.slice none 0 0,.iface 112 x]) /\ m ≠ 0 /\ Hid (ErrX w' (.iface 112 x) m)) \/ (∃ l v,e = .returned (.tuple #[v,.nilIface]) /\ Hid (Tl P l) /\ Hid (Byt w' v (pbt P l))))
theorem enc_two {w : World} {q : Pkv} {P : Pa} (hR : RPk w q P) (hB : Big P) : Calls Tryz.prog 8 #[q.val] w (EnPost P w) := by
 refine (enc_any hR hB).mono ?_
 rintro e w' ⟨hb,⟨_,x,rfl,hE⟩ | ⟨_,l,_,_,x,rfl,hE⟩ | ⟨h1,l,h2,h3,v,rfl,hO,hr⟩⟩
 ·exact ⟨hb,.inl ⟨x,1,rfl,by decide,W.ErP.xx (uh hE)⟩⟩
 ·exact ⟨hb,.inl ⟨x,2,rfl,by decide,W.ErP.xx (uh hE)⟩⟩
 ·exact ⟨hb,.inr ⟨l,v,rfl,⟨h1,h2,h3,uh hr⟩,byt_of_owns (uh hO) (uh hr)⟩⟩
def EnSure (N : Nat) (w : World) (e : Ending) (w' : World) : Prop := ∃ v M,M <= N /\ e = .returned (.tuple #[v,.nilIface]) /\ (∃ ao cap,v = .slice ao M cap) /\ Below w.heap.size w w'
theorem enc_sure {w : World} {q : Pkv} {P : Pa} {l : List Int} {N : Nat} (hR : RPk w q P) (hB : Big P) (h1 : (fkA P).2 = true) (h2 : eb P = some l) (h3 : (pbt P l).length <= N) (h4 : N <= 65536) : Calls Tryz.prog 8 #[q.val] w (EnSure N w) := by
 unfold pbt at h3
 refine (enc_any hR hB).mono ?_
 rintro e w' ⟨hb,⟨h,x,rfl,hE⟩ | ⟨_,l',k2,k3,x,rfl,hE⟩ | ⟨_,l',k2,k3,v,rfl,hO,hr⟩⟩
 ·rcases h with h | h
  ·rw [h1] at h; cases h
  ·rw [h2] at h; cases h
 ·rw [h2] at k2
  cases k2
  omega
 ·rw [h2] at k2
  cases k2
  obtain ⟨ao,cap,hv,_⟩ := row_form (uh hO)
  exact ⟨v,_,h3,rfl,⟨ao,cap,hv⟩,hb⟩
def DcGood (P : Pa) (N : Nat) (w : World) (e : Ending) (w' : World) : Prop := ∃ q : Pkv,e = .returned (.tuple #[q.val,.int .i64 N,.nilIface]) /\ Hid (Mean w' w.heap.size q P /\ Md P) /\ Below w.heap.size w w'
theorem dec_good {w : World} {v : Value} {P : Pa} {l z : List Int} (hv : Byt w v (pbt P l ++ z)) (h : Tl P l) : Calls Tryz.prog 14 #[v] w (DcGood P (pbt P l).length w) := by
 obtain ⟨k1,k2,k3⟩ := dec_back (r := z) h.body h.ok h.lrng h.len
 refine (decode_any v _ w hv).mono ?_
 rintro e w' ⟨q,n,E,rfl,⟨h0,_⟩ | ⟨_,hn,rfl,P',r,hd,hM⟩,hb⟩
 ·exact absurd k1 h0
 ·obtain ⟨_,hmd,_⟩ := dec_in hv.range k1 k3
  have hd' := hd
  rw [show dbody (pbt P l ++ z) = some (P,[]) from k3] at hd'
  cases hd'
  refine ⟨q,?_,⟨uh hM,hmd⟩,hb⟩
  rw [hn]
  show Ending.returned (.tuple #[q.val,.int .i64 (((meas (pbt P l ++ z)).2.1 : Nat) : Int),.nilIface]) = _
  rw [show (meas (pbt P l ++ z)).2.1 = (pbt P l).length from k2]
def DcShort (w : World) (e : Ending) (w' : World) : Prop := ∃ E,e = .returned (.tuple #[pkz.val,.int .i64 (0 : Nat),E]) /\ Hid (ErrX w' E 3) /\ Below w.heap.size w w'
theorem dec_short {w : World} {v : Value} {P : Pa} {l : List Int} {k : Nat} (hv : Byt w v ((pbt P l).take k)) (h : Tl P l) (hk : k < (pbt P l).length) : Calls Tryz.prog 14 #[v] w (DcShort w) := by
 have k1 : dnum ((pbt P l).take k) = 3 := short_back h.body h.ok h.lrng h.len k hk
 refine (decode_any v _ w hv).mono ?_
 rintro e w' ⟨q,n,E,rfl,⟨_,rfl,rfl,hE⟩ | ⟨h0,_⟩,hb⟩
 ·rw [k1] at hE
  exact ⟨E,rfl,W.ErP.xx (uh hE),hb⟩
 ·rw [k1] at h0
  exact absurd h0 (by decide)
def DcAny (w : World) (e : Ending) (w' : World) : Prop := ∃ (q : Pkv) (n : Nat) (E : Value),e = .returned (.tuple #[q.val,.int .i64 n,E]) /\ Below w.heap.size w w' /\
 ((∃ m,m ≠ 0 /\ Hid (ErrX w' E m)) \/ (E = .nilIface /\ ∃ P l,Hid (RPk w' q P) /\ Hid (Big P) /\ Hid ((fkA P).2 = true) /\ Hid (eb P = some l) /\ Hid ((pbt P l).length <= n) /\ n <= 65536))
theorem dec_two {w : World} {v : Value} {l : List Int} (hv : Byt w v l) : Calls Tryz.prog 14 #[v] w (DcAny w) := by
 refine (decode_any v _ w hv).mono ?_
 rintro e w' ⟨q,n,E,rfl,⟨h0,rfl,rfl,hE⟩ | ⟨h0,rfl,rfl,P,r,hd,hM⟩,hb⟩
 ·exact ⟨_,_,E,rfl,hb,.inl ⟨_,h0,W.ErP.xx (uh hE)⟩⟩
 ·obtain ⟨h1,hmd,ys,h2,h3,h4⟩ := dec_in hv.range h0 hd
  exact ⟨q,_,_,rfl,hb,.inr ⟨rfl,P,ys,mean_rpk (uh hM) hmd,hmd.big,h1,h2,h3,h4⟩⟩
end Go.Proofs.YtemedclhglkfjaaGreatDoor.K.B
