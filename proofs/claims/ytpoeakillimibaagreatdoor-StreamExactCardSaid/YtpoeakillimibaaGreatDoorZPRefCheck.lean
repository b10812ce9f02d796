/- Proved here: dovecoteref3.Check tells the number chkP of any properties read from memory. Helper contracts. -/
import Derived.Test.YtpoeakillimibaaGreatDoorZPMay
import Derived.Test.YtpoeakillimibaaGreatDoorM21
import Derived.Test.YtpoeakillimibaaGreatDoorM25
set_option maxHeartbeats 20000000
namespace Go.Proofs.YtpoeakillimibaaGreatDoor
open Go.RowKit
set_option maxRecDepth 100000
theorem may_use (id n : Int) (s t : ByteArray) (b : Bool) (h : may (id,n,s,t) = b) (w : World) (hs : s.size <= 4611686018427387904) (ht : t.size <= 4611686018427387904) : Calls Tryz.prog 184 #[.agg #[.int .i64 id,.int .i64 n,.string s,.string t]] w fun e w' => e = .returned (.bool b) /\ Below w.heap.size w w' := by
 subst h
 exact may_any id n s t w hs ht
theorem in_use (vx : Value) (xs : List Int) (v : Int) (b : Bool) (hb : decide (v ∈ xs) = b) (w : World) (h : Ints w vx xs) :
  Calls Tryz.prog 185 #[vx,.int .i64 v] w fun e w' => (∃ r : Int,e = .returned (.int .i64 r) /\ (decide (r < 0)) = (!b)) /\ w' = w := by
 subst hb
 exact in_any vx xs v w h
theorem seen_iff (l : List Pr) (k : Nat) (hk : k <= l.length) (id : Int) : seen l k id = false ↔ ∀ j,j < k -> (at0 l j).1 ≠ id := by
 unfold seen at0
 rw [List.any_eq_false]
 constructor
 ·intro h j hj
  have hm : l.getD j p0 ∈ l.take k := by
   rw [List.mem_take_iff_getElem]
   exact ⟨j,by omega,by rw [List.getD_eq_getElem?_getD,List.getElem?_eq_getElem (by omega)]; rfl⟩
  simpa using h _ hm
 ·intro h x hx
  rw [List.mem_take_iff_getElem] at hx
  obtain ⟨j,hj,rfl⟩ := hx
  have := h j (by omega)
  rw [List.getD_eq_getElem?_getD,List.getElem?_eq_getElem (by omega)] at this
  simpa using this
theorem rchk_core (b off cap : Nat) (l : List Pr) (len : Nat) (place : Int) (w : World) (hlen : l.length = len) (hmx : len <= 1000000000) (hsm : Small l) (hl : PrAt w b off l) :
  Calls Tryz.prog 154 #[.slice (some ⟨b,off,none⟩) len cap,.int .i64 place] w fun e w' => e = .returned (.int .i64 (chkP place l)) /\ Below w.heap.size w w' := by
 have HL := zh hl
 have HLEN := zh hlen
 have HSM := zh hsm
 clear hl hlen hsm
 go_enter Tryz.func154,Tryz.ntmps154
 go_wp2
 go_loopw [5] (fun i wr => ∃ k : Nat,k <= len /\ i = .int .i64 k /\ Hid (okTo place l k) /\ Below w.heap.size w wr) (fun i _ => len - (intOf i).toNat)
 case atStart => exact ⟨0,Nat.zero_le _,rfl,okTo_zero _ _,Below.refl _ _⟩
 case round =>
  obtain ⟨k,hk,rfl,HOT,hbel⟩ := hrel
  have hsz := hbel.size
  by_cases hlt : k < len
  ·have HPA := zh ((uh HL).below hbel)
   obtain ⟨h0,h1,h2,h3⟩ := (uh HPA) k (by rw [uh HLEN]; exact hlt)
   have hsm := (uh HSM) k (by rw [uh HLEN]; exact hlt)
   have HLTk : Hid (k < l.length) := by show _ < _; rw [uh HLEN]; exact hlt
   have HKO : Hid (okAt place l k = (mst (at0 l k).1 place && may (at0 l k) && (rep (at0 l k).1 place || !(seen l k (at0 l k).1)))) := rfl
   have HSI := zh (seen_iff l k (Nat.le_of_lt (uh HLTk)) (at0 l k).1)
   obtain ⟨id,n,s,t,hp⟩ : ∃ id n s t,at0 l k = (id,n,s,t) := ⟨_,_,_,_,rfl⟩
   rw [hp] at h0 h1 h2 h3 hsm HKO HSI
   simp only at h0 h1 h2 h3 hsm
   have HBEL := zh hbel
   have HSMK := zh hsm
   clear hp hbel hsm
   have hbl := cell_lt h0
   cases hmay : may (id,n,s,t)
   ·have HC : Hid (chkP place l = 1) := chkP_bad place l k (uh HLTk) ((uh HKO).trans (by rw [hmay,Bool.and_false,Bool.false_and]))
    have HM := zh hmay
    clear hmay HKO
    go_wp2_with fail
    refine (may_use id n s t false (uh HM) _ (uh HSMK).1 (uh HSMK).2).mono ?_
    rintro e w2 ⟨rfl,hb2⟩
    go_wp2
    go_ret
    exact ⟨ret_int (uh HC).symm,(uh HBEL).trans (hb2.mono hsz)⟩
   ·have HM := zh hmay
    cases hmst : mst id place
    ·have HC : Hid (chkP place l = 1) := chkP_bad place l k (uh HLTk) ((uh HKO).trans (by rw [hmst]; rfl))
     have HMS : Hid (decide (place ∈ plc id) = false) := hmst
     clear hmay HKO hmst
     go_wp2_with fail
     refine (may_use id n s t true (uh HM) _ (uh HSMK).1 (uh HSMK).2).mono ?_
     rintro e w2 ⟨rfl,hb2⟩
     have g0 : w2.cell? ⟨b,off + k * 4,none⟩ = some (.int .i64 id) := (hb2.cell (p := ⟨b,off + k * 4,none⟩) hbl).trans h0
     have HB2 : Hid (Below w.heap.size w w2) := (uh HBEL).trans (hb2.mono hsz)
     clear hb2
     go_wp2_with fail
     refine (places_any id _).mono ?_
     rintro e w3 ⟨v3,rfl,hi3,hb3⟩
     have HB3 : Hid (Below w.heap.size w w3) := (uh HB2).trans (hb3.mono (uh HB2).size)
     clear hb3
     go_wp2_with fail
     refine (in_use v3 (plc id) place false (uh HMS) _ (uh hi3)).mono ?_
     rintro e w4 ⟨⟨r,rfl,hr⟩,hw⟩
     obtain rfl := hw.symm
     clear hw
     have hr' : r < 0 := by simpa using hr
     clear hr
     go_wp2
     go_ret
     exact ⟨ret_int (uh HC).symm,uh HB3⟩
    ·have HMS : Hid (decide (place ∈ plc id) = true) := hmst
     have HRS : Hid (okAt place l k = (rep id place || !(seen l k id))) := (uh HKO).trans (by rw [hmst,hmay]; rfl)
     clear hmay HKO hmst
     go_wp2_with fail
     refine (may_use id n s t true (uh HM) _ (uh HSMK).1 (uh HSMK).2).mono ?_
     rintro e w2 ⟨rfl,hb2⟩
     have g0 : w2.cell? ⟨b,off + k * 4,none⟩ = some (.int .i64 id) := (hb2.cell (p := ⟨b,off + k * 4,none⟩) hbl).trans h0
     have HB2 : Hid (Below w.heap.size w w2) := (uh HBEL).trans (hb2.mono hsz)
     clear hb2
     go_wp2_with fail
     refine (places_any id _).mono ?_
     rintro e w3 ⟨v3,rfl,hi3,hb3⟩
     have HB3 : Hid (Below w.heap.size w w3) := (uh HB2).trans (hb3.mono (uh HB2).size)
     clear hb3
     go_wp2_with fail
     refine (in_use v3 (plc id) place true (uh HMS) _ (uh hi3)).mono ?_
     rintro e w4 ⟨⟨r,rfl,hr⟩,hw⟩
     obtain rfl := hw.symm
     clear hw hi3
     have hr' : ¬ r < 0 := by simpa using hr
     clear hr
     have HPA3 : Hid (PrAt w3 b off l) := (uh HL).below (uh HB3)
     have g3 : w3.cell? ⟨b,off + k * 4,none⟩ = some (.int .i64 id) := ((uh HB3).cell (p := ⟨b,off + k * 4,none⟩) (by have := cell_lt ((uh HL) k (uh HLTk)).1; exact this)).trans (((uh HBEL).cell (p := ⟨b,off + k * 4,none⟩) (by have := cell_lt ((uh HL) k (uh HLTk)).1; exact this)).symm.trans h0)
     clear g0 HB2 HBEL h0 h1 h2 h3 HPA HM HMS HSMK hbl
     have hrep : rep id place = (decide (id = 38) || (decide (id = 11) && decide (place = 3))) := rfl
     have HREP := zh hrep
     clear hrep hsz
     by_cases e38 : id = 38
     ·have HOK : Hid (okAt place l k = true) := by show okAt place l k = true; rw [uh HRS,uh HREP,e38]; rfl
      subst e38
      go_wp2
      go_roundw
      case rel => exact ⟨k + 1,by omega,by go_num,okTo_succ (uh HOT) (uh HOK),uh HB3⟩
      case measure => simp [intOf]; omega
     have b38 : (id == 38) = false := beq_eq_false_iff_ne.2 e38
     by_cases e11 : id = 11
     ·by_cases e3 : place = 3
      ·have HOK : Hid (okAt place l k = true) := by show okAt place l k = true; rw [uh HRS,uh HREP,e11,e3]; rfl
       subst e11
       subst e3
       clear e38 b38
       go_wp2
       go_roundw
       case rel => exact ⟨k + 1,by omega,by go_num,okTo_succ (uh HOT) (uh HOK),uh HB3⟩
       case measure => simp [intOf]; omega
      ·have HRF : Hid (rep id place = false) := by show rep id place = false; rw [uh HREP]; simp [e38,e3]
       have b3 : (place == 3) = false := beq_eq_false_iff_ne.2 e3
       have b11 : (id == 11) = true := beq_iff_eq.2 e11
       clear e38 e3 e11
       go_wp2
       go_loopw [6] (fun j wr => ∃ m q : Nat,m <= k /\ j = .int .i64 m /\ wr = w3.drewN q /\ Hid (∀ i,i < m -> (at0 l i).1 ≠ id)) (fun j _ => k - (intOf j).toNat)
       case atStart => exact ⟨0,0,Nat.zero_le _,rfl,rfl,fun i hi => absurd hi (Nat.not_lt_zero i)⟩
       case round =>
        obtain ⟨m,q,hm,rfl,rfl,HNE⟩ := hrel
        by_cases hmk : m < k
        ·have hcm := ((uh HPA3) m (Nat.lt_trans hmk (uh HLTk))).1
         generalize hx : (at0 l m).1 = x at hcm
         have HX := zh hx
         clear hx
         by_cases hxy : x = id
         ·have hbq : (x == id) = true := beq_iff_eq.2 hxy
          have HC : Hid (chkP place l = 1) := chkP_bad place l k (uh HLTk) (by
           rw [uh HRS,uh HRF,Bool.false_or,Bool.not_eq_false']
           cases hs : seen l k id
           ·exact absurd ((uh HX).trans hxy) (((uh HSI).1 hs) m hmk)
           ·rfl)
          clear hxy
          go_wp2
          go_quiet (fail)
          go_wp2
          go_ret
          exact ⟨ret_int (uh HC).symm,below_drewN (below_drewN (uh HB3) _) _⟩
         ·have hbq : (x == id) = false := beq_eq_false_iff_ne.2 hxy
          have HXY := zh hxy
          clear hxy
          go_wp2
          go_quiet (fail)
          go_wp2
          go_roundw
          case rel => exact ⟨m + 1,_,by omega,by go_num,rfl,fun i hi => by
           rcases Nat.lt_succ_iff_lt_or_eq.1 hi with h | h
           ·exact (uh HNE) i h
           ·rw [h,uh HX]; exact uh HXY⟩
          case measure => simp [intOf]; omega
        ·obtain rfl : m = k := by omega
         have HOK : Hid (okAt place l m = true) := by
          show okAt place l m = true
          rw [uh HRS,uh HRF,(uh HSI).2 (uh HNE)]; rfl
         go_wp2
         go_roundw
         case rel => exact ⟨m + 1,by omega,by go_num,okTo_succ (uh HOT) (uh HOK),below_drewN (uh HB3) _⟩
         case measure => simp [intOf]; omega
     ·have HRF : Hid (rep id place = false) := by show rep id place = false; rw [uh HREP]; simp [e38,e11]
      have b11 : (id == 11) = false := beq_eq_false_iff_ne.2 e11
      clear e38 e11
      go_wp2
      go_loopw [6] (fun j wr => ∃ m q : Nat,m <= k /\ j = .int .i64 m /\ wr = w3.drewN q /\ Hid (∀ i,i < m -> (at0 l i).1 ≠ id)) (fun j _ => k - (intOf j).toNat)
      case atStart => exact ⟨0,0,Nat.zero_le _,rfl,rfl,fun i hi => absurd hi (Nat.not_lt_zero i)⟩
      case round =>
       obtain ⟨m,q,hm,rfl,rfl,HNE⟩ := hrel
       by_cases hmk : m < k
       ·have hcm := ((uh HPA3) m (Nat.lt_trans hmk (uh HLTk))).1
        generalize hx : (at0 l m).1 = x at hcm
        have HX := zh hx
        clear hx
        by_cases hxy : x = id
        ·have hbq : (x == id) = true := beq_iff_eq.2 hxy
         have HC : Hid (chkP place l = 1) := chkP_bad place l k (uh HLTk) (by
          rw [uh HRS,uh HRF,Bool.false_or,Bool.not_eq_false']
          cases hs : seen l k id
          ·exact absurd ((uh HX).trans hxy) (((uh HSI).1 hs) m hmk)
          ·rfl)
         clear hxy
         go_wp2
         go_quiet (fail)
         go_wp2
         go_ret
         exact ⟨ret_int (uh HC).symm,below_drewN (below_drewN (uh HB3) _) _⟩
        ·have hbq : (x == id) = false := beq_eq_false_iff_ne.2 hxy
         have HXY := zh hxy
         clear hxy
         go_wp2
         go_quiet (fail)
         go_wp2
         go_roundw
         case rel => exact ⟨m + 1,_,by omega,by go_num,rfl,fun i hi => by
          rcases Nat.lt_succ_iff_lt_or_eq.1 hi with h | h
          ·exact (uh HNE) i h
          ·rw [h,uh HX]; exact uh HXY⟩
         case measure => simp [intOf]; omega
       ·obtain rfl : m = k := by omega
        have HOK : Hid (okAt place l m = true) := by
         show okAt place l m = true
         rw [uh HRS,uh HRF,(uh HSI).2 (uh HNE)]; rfl
        go_wp2
        go_roundw
        case rel => exact ⟨m + 1,by omega,by go_num,okTo_succ (uh HOT) (uh HOK),below_drewN (uh HB3) _⟩
        case measure => simp [intOf]; omega
  ·obtain rfl : k = len := by omega
   have HOT' : Hid (okTo place l l.length) := by show okTo _ _ _; rw [uh HLEN]; exact uh HOT
   rcases Nat.lt_or_ge 32 k with h32 | h32
   ·have HC : Hid (chkP place l = 2) := chkP_lim place l (uh HOT') (by rw [uh HLEN]; exact h32)
    go_wp2
    go_ret
    exact ⟨ret_int (uh HC).symm,hbel⟩
   ·have HC : Hid (chkP place l = 0) := chkP_ok place l (uh HOT') (by rw [uh HLEN]; exact h32)
    go_wp2
    go_ret
    exact ⟨ret_int (uh HC).symm,hbel⟩
end Go.Proofs.YtpoeakillimibaaGreatDoor
