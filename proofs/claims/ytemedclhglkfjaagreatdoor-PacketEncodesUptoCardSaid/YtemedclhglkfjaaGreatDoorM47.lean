/- Proved here: helpers, one text behind the other. -/
import Derived.Test.YtemedclhglkfjaaGreatDoorM46
import Derived.Test.YtemedclhglkfjaaGreatDoorM30
import Derived.Test.YtemedclhglkfjaaGreatDoorM20
import Derived.Test.YtemedclhglkfjaaGreatDoorM11
import Derived.Deep.RegionHeld3
import Derived.Test.YtemedclhglkfjaaGreatDoorM17
set_option maxHeartbeats 20000000
namespace Go.Proofs.YtemedclhglkfjaaGreatDoor
open Go.RowKit
set_option maxRecDepth 100000
theorem may_use (id n : Int) (s t : ByteArray) (b : Bool) (h : may (id,n,s,t) = b) (w : World) (hs : s.size <= 4611686018427387904) (ht : t.size <= 4611686018427387904) : Calls Tryz.prog 126 #[.agg #[.int .i64 id,.int .i64 n,.string s,.string t]] w fun e w' => e = .returned (.bool b) /\ Below w.heap.size w w' := by
 subst h
 exact may_any id n s t w hs ht
theorem in_use (vx : Value) (xs : List Int) (v : Int) (b : Bool) (hb : decide (v ∈ xs) = b) (w : World) (h : Ints w vx xs) :
  Calls Tryz.prog 127 #[vx,.int .i64 v] w fun e w' => (∃ r : Int,e = .returned (.int .i64 r) /\ (decide (r < 0)) = (!b)) /\ w' = w := by
 subst hb
 exact in_any vx xs v w h
theorem seen_iff (l : List Pr) (k : Nat) (hk : k <= l.length) (id : Int) : seen l k id = false ↔ ∀ j,j < k -> (at0 l j).1 ≠ id := by
 unfold seen at0
 rw [List.any_eq_false]
 constructor
 ·intro h j hj
  have hm : l.getD j p0 ∈ l.take k := by
   rw [List.mem_take_iff_getElem]
   exact ⟨j,by omega,by rw [List.getD_eq_getElem?_getD,List.getElem?_eq_getElem (by omega)]; rfl⟩
  simpa using h _ hm
 ·intro h x hx
  rw [List.mem_take_iff_getElem] at hx
  obtain ⟨j,hj,rfl⟩ := hx
  have := h j (by omega)
  rw [List.getD_eq_getElem?_getD,List.getElem?_eq_getElem (by omega)] at this
  simpa using this
theorem rchk_core (b off cap : Nat) (l : List Pr) (len : Nat) (place : Int) (w : World) (hlen : l.length = len) (hmx : len <= 1000000000) (hsm : Small l) (hl : PrAt w b off l) :
  Calls Tryz.prog 102 #[.slice (some ⟨b,off,none⟩) len cap,.int .i64 place] w fun e w' => e = .returned (.int .i64 (chkP place l)) /\ Below w.heap.size w w' := by
 have HL := zh hl
 have HLEN := zh hlen
 have HSM := zh hsm
 clear hl hlen hsm
 go_enter Tryz.func102,Tryz.ntmps102
 go_wp2
 go_loopw [5] (fun i wr => ∃ k : Nat,k <= len /\ i = .int .i64 k /\ Hid (okTo place l k) /\ Below w.heap.size w wr) (fun i _ => len - (intOf i).toNat)
 case atStart => exact ⟨0,Nat.zero_le _,rfl,okTo_zero _ _,Below.refl _ _⟩
 case round =>
  obtain ⟨k,hk,rfl,HOT,hbel⟩ := hrel
  have hsz := hbel.size
  by_cases hlt : k < len
  ·have HPA := zh ((uh HL).below hbel)
   obtain ⟨h0,h1,h2,h3⟩ := (uh HPA) k (by rw [uh HLEN]; exact hlt)
   have hsm := (uh HSM) k (by rw [uh HLEN]; exact hlt)
   have HLTk : Hid (k < l.length) := by show _ < _; rw [uh HLEN]; exact hlt
   have HKO : Hid (okAt place l k = (mst (at0 l k).1 place && may (at0 l k) && (rep (at0 l k).1 place || !(seen l k (at0 l k).1)))) := rfl
   have HSI := zh (seen_iff l k (Nat.le_of_lt (uh HLTk)) (at0 l k).1)
   obtain ⟨id,n,s,t,hp⟩ : ∃ id n s t,at0 l k = (id,n,s,t) := ⟨_,_,_,_,rfl⟩
   rw [hp] at h0 h1 h2 h3 hsm HKO HSI
   simp only at h0 h1 h2 h3 hsm
   have HBEL := zh hbel
   have HSMK := zh hsm
   clear hp hbel hsm
   have hbl := cell_lt h0
   cases hmay : may (id,n,s,t)
   ·have HC : Hid (chkP place l = 1) := chkP_bad place l k (uh HLTk) ((uh HKO).trans (by rw [hmay,Bool.and_false,Bool.false_and]))
    have HM := zh hmay
    clear hmay HKO
    go_wp2_with fail
    refine (may_use id n s t false (uh HM) _ (uh HSMK).1 (uh HSMK).2).mono ?_
    rintro e w2 ⟨rfl,hb2⟩
    go_wp2
    go_ret
    exact ⟨ret_int (uh HC).symm,(uh HBEL).trans (hb2.mono hsz)⟩
   ·have HM := zh hmay
    cases hmst : mst id place
    ·have HC : Hid (chkP place l = 1) := chkP_bad place l k (uh HLTk) ((uh HKO).trans (by rw [hmst]; rfl))
     have HMS : Hid (decide (place ∈ plc id) = false) := hmst
     clear hmay HKO hmst
     go_wp2_with fail
     refine (may_use id n s t true (uh HM) _ (uh HSMK).1 (uh HSMK).2).mono ?_
     rintro e w2 ⟨rfl,hb2⟩
     have g0 : w2.cell? ⟨b,off + k * 4,none⟩ = some (.int .i64 id) := (hb2.cell (p := ⟨b,off + k * 4,none⟩) hbl).trans h0
     have HB2 : Hid (Below w.heap.size w w2) := (uh HBEL).trans (hb2.mono hsz)
     clear hb2
     go_wp2_with fail
     refine (places_any id _).mono ?_
     rintro e w3 ⟨v3,rfl,hi3,hb3⟩
     have HB3 : Hid (Below w.heap.size w w3) := (uh HB2).trans (hb3.mono (uh HB2).size)
     clear hb3
     go_wp2_with fail
     refine (in_use v3 (plc id) place false (uh HMS) _ (uh hi3)).mono ?_
     rintro e w4 ⟨⟨r,rfl,hr⟩,hw⟩
     obtain rfl := hw.symm
     clear hw
     have hr' : r < 0 := by simpa using hr
     clear hr
     go_wp2
     go_ret
     exact ⟨ret_int (uh HC).symm,uh HB3⟩
    ·have HMS : Hid (decide (place ∈ plc id) = true) := hmst
     have HRS : Hid (okAt place l k = (rep id place || !(seen l k id))) := (uh HKO).trans (by rw [hmst,hmay]; rfl)
     clear hmay HKO hmst
     go_wp2_with fail
     refine (may_use id n s t true (uh HM) _ (uh HSMK).1 (uh HSMK).2).mono ?_
     rintro e w2 ⟨rfl,hb2⟩
     have g0 : w2.cell? ⟨b,off + k * 4,none⟩ = some (.int .i64 id) := (hb2.cell (p := ⟨b,off + k * 4,none⟩) hbl).trans h0
     have HB2 : Hid (Below w.heap.size w w2) := (uh HBEL).trans (hb2.mono hsz)
     clear hb2
     go_wp2_with fail
     refine (places_any id _).mono ?_
     rintro e w3 ⟨v3,rfl,hi3,hb3⟩
     have HB3 : Hid (Below w.heap.size w w3) := (uh HB2).trans (hb3.mono (uh HB2).size)
     clear hb3
     go_wp2_with fail
     refine (in_use v3 (plc id) place true (uh HMS) _ (uh hi3)).mono ?_
     rintro e w4 ⟨⟨r,rfl,hr⟩,hw⟩
     obtain rfl := hw.symm
     clear hw hi3
     have hr' : ¬ r < 0 := by simpa using hr
     clear hr
     have HPA3 : Hid (PrAt w3 b off l) := (uh HL).below (uh HB3)
     have g3 : w3.cell? ⟨b,off + k * 4,none⟩ = some (.int .i64 id) := ((uh HB3).cell (p := ⟨b,off + k * 4,none⟩) (by have := cell_lt ((uh HL) k (uh HLTk)).1; exact this)).trans (((uh HBEL).cell (p := ⟨b,off + k * 4,none⟩) (by have := cell_lt ((uh HL) k (uh HLTk)).1; exact this)).symm.trans h0)
     clear g0 HB2 HBEL h0 h1 h2 h3 HPA HM HMS HSMK hbl
     have hrep : rep id place = (decide (id = 38) || (decide (id = 11) && decide (place = 3))) := rfl
     have HREP := zh hrep
     clear hrep hsz
     by_cases e38 : id = 38
     ·have HOK : Hid (okAt place l k = true) := by show okAt place l k = true; rw [uh HRS,uh HREP,e38]; rfl
      subst e38
      go_wp2
      go_roundw
      case rel => exact ⟨k + 1,by omega,by go_num,okTo_succ (uh HOT) (uh HOK),uh HB3⟩
      case measure => simp [intOf]; omega
     have b38 : (id == 38) = false := beq_eq_false_iff_ne.2 e38
     by_cases e11 : id = 11
     ·by_cases e3 : place = 3
      ·have HOK : Hid (okAt place l k = true) := by show okAt place l k = true; rw [uh HRS,uh HREP,e11,e3]; rfl
       subst e11
       subst e3
       clear e38 b38
       go_wp2
       go_roundw
       case rel => exact ⟨k + 1,by omega,by go_num,okTo_succ (uh HOT) (uh HOK),uh HB3⟩
       case measure => simp [intOf]; omega
      ·have HRF : Hid (rep id place = false) := by show rep id place = false; rw [uh HREP]; simp [e38,e3]
       have b3 : (place == 3) = false := beq_eq_false_iff_ne.2 e3
       have b11 : (id == 11) = true := beq_iff_eq.2 e11
       clear e38 e3 e11
       go_wp2
       go_loopw [6] (fun j wr => ∃ m q : Nat,m <= k /\ j = .int .i64 m /\ wr = w3.drewN q /\ Hid (∀ i,i < m -> (at0 l i).1 ≠ id)) (fun j _ => k - (intOf j).toNat)
       case atStart => exact ⟨0,0,Nat.zero_le _,rfl,rfl,fun i hi => absurd hi (Nat.not_lt_zero i)⟩
       case round =>
        obtain ⟨m,q,hm,rfl,rfl,HNE⟩ := hrel
        by_cases hmk : m < k
        ·have hcm := ((uh HPA3) m (Nat.lt_trans hmk (uh HLTk))).1
         generalize hx : (at0 l m).1 = x at hcm
         have HX := zh hx
         clear hx
         by_cases hxy : x = id
         ·have hbq : (x == id) = true := beq_iff_eq.2 hxy
          have HC : Hid (chkP place l = 1) := chkP_bad place l k (uh HLTk) (by
           rw [uh HRS,uh HRF,Bool.false_or,Bool.not_eq_false']
           cases hs : seen l k id
           ·exact absurd ((uh HX).trans hxy) (((uh HSI).1 hs) m hmk)
           ·rfl)
          clear hxy
          go_wp2
          go_quiet (fail)
          go_wp2
          go_ret
          exact ⟨ret_int (uh HC).symm,below_drewN (below_drewN (uh HB3) _) _⟩
         ·have hbq : (x == id) = false := beq_eq_false_iff_ne.2 hxy
          have HXY := zh hxy
          clear hxy
          go_wp2
          go_quiet (fail)
          go_wp2
          go_roundw
          case rel => exact ⟨m + 1,_,by omega,by go_num,rfl,fun i hi => by
           rcases Nat.lt_succ_iff_lt_or_eq.1 hi with h | h
           ·exact (uh HNE) i h
           ·rw [h,uh HX]; exact uh HXY⟩
          case measure => simp [intOf]; omega
        ·obtain rfl : m = k := by omega
         have HOK : Hid (okAt place l m = true) := by
          show okAt place l m = true
          rw [uh HRS,uh HRF,(uh HSI).2 (uh HNE)]; rfl
         go_wp2
         go_roundw
         case rel => exact ⟨m + 1,by omega,by go_num,okTo_succ (uh HOT) (uh HOK),below_drewN (uh HB3) _⟩
         case measure => simp [intOf]; omega
     ·have HRF : Hid (rep id place = false) := by show rep id place = false; rw [uh HREP]; simp [e38,e11]
      have b11 : (id == 11) = false := beq_eq_false_iff_ne.2 e11
      clear e38 e11
      go_wp2
      go_loopw [6] (fun j wr => ∃ m q : Nat,m <= k /\ j = .int .i64 m /\ wr = w3.drewN q /\ Hid (∀ i,i < m -> (at0 l i).1 ≠ id)) (fun j _ => k - (intOf j).toNat)
      case atStart => exact ⟨0,0,Nat.zero_le _,rfl,rfl,fun i hi => absurd hi (Nat.not_lt_zero i)⟩
      case round =>
       obtain ⟨m,q,hm,rfl,rfl,HNE⟩ := hrel
       by_cases hmk : m < k
       ·have hcm := ((uh HPA3) m (Nat.lt_trans hmk (uh HLTk))).1
        generalize hx : (at0 l m).1 = x at hcm
        have HX := zh hx
        clear hx
        by_cases hxy : x = id
        ·have hbq : (x == id) = true := beq_iff_eq.2 hxy
         have HC : Hid (chkP place l = 1) := chkP_bad place l k (uh HLTk) (by
          rw [uh HRS,uh HRF,Bool.false_or,Bool.not_eq_false']
          cases hs : seen l k id
          ·exact absurd ((uh HX).trans hxy) (((uh HSI).1 hs) m hmk)
          ·rfl)
         clear hxy
         go_wp2
         go_quiet (fail)
         go_wp2
         go_ret
         exact ⟨ret_int (uh HC).symm,below_drewN (below_drewN (uh HB3) _) _⟩
        ·have hbq : (x == id) = false := beq_eq_false_iff_ne.2 hxy
         have HXY := zh hxy
         clear hxy
         go_wp2
         go_quiet (fail)
         go_wp2
         go_roundw
         case rel => exact ⟨m + 1,_,by omega,by go_num,rfl,fun i hi => by
          rcases Nat.lt_succ_iff_lt_or_eq.1 hi with h | h
          ·exact (uh HNE) i h
          ·rw [h,uh HX]; exact uh HXY⟩
         case measure => simp [intOf]; omega
       ·obtain rfl : m = k := by omega
        have HOK : Hid (okAt place l m = true) := by
         show okAt place l m = true
         rw [uh HRS,uh HRF,(uh HSI).2 (uh HNE)]; rfl
        go_wp2
        go_roundw
        case rel => exact ⟨m + 1,by omega,by go_num,okTo_succ (uh HOT) (uh HOK),below_drewN (uh HB3) _⟩
        case measure => simp [intOf]; omega
  ·obtain rfl : k = len := by omega
   have HOT' : Hid (okTo place l l.length) := by show okTo _ _ _; rw [uh HLEN]; exact uh HOT
   rcases Nat.lt_or_ge 32 k with h32 | h32
   ·have HC : Hid (chkP place l = 2) := chkP_lim place l (uh HOT') (by rw [uh HLEN]; exact h32)
    go_wp2
    go_ret
    exact ⟨ret_int (uh HC).symm,hbel⟩
   ·have HC : Hid (chkP place l = 0) := chkP_ok place l (uh HOT') (by rw [uh HLEN]; exact h32)
    go_wp2
    go_ret
    exact ⟨ret_int (uh HC).symm,hbel⟩
theorem rput_use (n : Int) (w : World) (h0 : 0 <= n) (h1 : n <= 268435455) : Calls Tryz.prog 30 #[.int .i64 n] w (fun e w' => ∃ v,e = .returned v /\ Hid (w'.ownsRow w.heap.size 5 1 v (V.put n).length ((V.put n).map (Value.int .u8))) /\ Hid (Byt w' v (V.put n)) /\ Below w.heap.size w w') := by
 refine (V.rput_any n w h0 h1).mono ?_
 rintro e w' ⟨v,rfl,hown,hb⟩
 exact ⟨v,rfl,hown,byt_of_owns hown (V.put_range n h0 h1),hb⟩
theorem bin_use (s : ByteArray) (w : World) (hs : s.size <= 65535) : Calls Tryz.prog 69 #[.string s] w (fun e w' => ∃ v,e = .returned v /\ Hid (Byt w' v (tx s)) /\ Below w.heap.size w w') := by
 refine (bin_any s w hs).mono ?_
 rintro e w' ⟨v,rfl,hown,hb⟩
 exact ⟨v,rfl,byt_of_owns (uh hown) (tx_range s hs),hb⟩
theorem high_use (k n : Int) (w : World) (hk : k = 2 /\ n <= 65535 \/ k = 4 /\ n <= 4294967295) (h0 : 0 <= n) : Calls Tryz.prog 130 #[.int .i64 n,.int .i64 k] w (fun e w' => ∃ v,e = .returned v /\ Hid (Byt w' v (nbs k n)) /\ Below w.heap.size w w') := by
 have hr := nbs_range k n (by omega) h0
 have key : ∀ e w',NumPost k n w e w' -> ∃ v,e = .returned v /\ Hid (Byt w' v (nbs k n)) /\ Below w.heap.size w w' := by
  rintro e w' ⟨v,rfl,hown,hb⟩
  exact ⟨v,rfl,byt_of_owns (uh hown) hr,hb⟩
 rcases hk with ⟨rfl,h⟩ | ⟨rfl,h⟩
 ·exact (high_2 n w h0 h).mono key
 ·exact (high_4 n w h0 h).mono key
def PutP (l : List Int) (w : World) (e : Ending) (w' : World) : Prop := ∃ v,e = .returned v /\ Hid (Byt w' v l) /\ Below w.heap.size w w'
theorem rpp_2 (id n : Int) (s t : ByteArray) (w : World) (hi : 1 <= id /\ id <= 42) (hk : kd id = 2) (h0 : 0 <= n) (h1 : n <= 65535) : Calls Tryz.prog 103 #[.agg #[.int .i64 id,.int .i64 n,.string s,.string t]] w (PutP (V.put id ++ (nbs 2 n)) w) := by
 have HK := zh hk
 clear hk
 have HL := zh (V.put_len id)
 go_enter Tryz.func103,Tryz.ntmps103
 go_wp2_with fail
 refine (rput_use id _ (by omega) (by omega)).mono ?_
 rintro e w1 ⟨v1,rfl,hown1,hy1,hb1⟩
 have HR := zh (uh hy1).range
 have HB1 := bal1 hb1
 have c0 : w1.cell? ⟨w.heap.size,0,none⟩ = some (.int .i64 id) := (hb1.cell (p := ⟨w.heap.size,0,none⟩) (by simp)).trans (by simp)
 have c1 : w1.cell? ⟨w.heap.size,1,none⟩ = some (.int .i64 n) := (hb1.cell (p := ⟨w.heap.size,1,none⟩) (by simp)).trans (by simp)
 have c2 : w1.cell? ⟨w.heap.size,2,none⟩ = some (.string s) := (hb1.cell (p := ⟨w.heap.size,2,none⟩) (by simp)).trans (by simp)
 have c3 : w1.cell? ⟨w.heap.size,3,none⟩ = some (.string t) := (hb1.cell (p := ⟨w.heap.size,3,none⟩) (by simp)).trans (by simp)
 have hlw : w.heap.size < w1.heap.size := cell_lt c0
 have HO1 : Hid (w1.ownsRow w.heap.size 5 1 v1 (V.put id).length ((V.put id).map (Value.int .u8))) := owns_mono (uh hown1) (by simp)
 clear hb1 hown1 hy1
 go_wp2_with fail
 refine (kind_use _ 2 (uh HK) _).mono ?_
 rintro e w' ⟨rfl,hw⟩
 obtain rfl := hw.symm
 clear hw
 have HLE : Hid (((nbs 2 n)).length <= 65537) := (by show List.length _ <= _; unfold nbs; simp)
 go_wp2_with fail
 refine (high_use 2 n _ (.inl ⟨rfl,h1⟩) h0).mono ?_
 rintro e w2 ⟨v2,rfl,hy2,hb2⟩
 have HO2 : Hid (w2.ownsRow w.heap.size 5 1 v1 (V.put id).length ((V.put id).map (Value.int .u8))) := owns_below (uh HO1) hb2
 have HB2 : Hid (Below w.heap.size w w2) := (uh HB1).trans (hb2.mono (uh HB1).size)
 clear hb2 HB1 HO1 c0 c1 c2 c3
 go_wp2_with (first
  | (at_builtin; refine wpList_append_byt _ rfl _ _ rfl w.heap.size _ (V.put id).length (V.put id) rfl (uh HO2) v2 (nbs 2 n) rfl (uh hy2) (by have := uh HL; have := uh HLE; omega) (uh HB2).size ?_)
  | go_in)
 intro v3 w3 hown3 hgrow3
 have hb3 : Below w.heap.size w w3 := (uh HB2).grown hgrow3 (uh HB2).size (fun k hk => ((uh HO2).lt k hk).1)
 have HY3 : Hid (Byt w3 v3 (V.put id ++ (nbs 2 n))) := byt_of_owns (by rw [List.map_append]; exact hown3) (range_app (uh HR) (uh hy2).range)
 clear hown3 hgrow3
 go_wp2
 go_ret
 exact ⟨_,rfl,HY3,hb3⟩
theorem rpp_4 (id n : Int) (s t : ByteArray) (w : World) (hi : 1 <= id /\ id <= 42) (hk : kd id = 4) (h0 : 0 <= n) (h1 : n <= 4294967295) : Calls Tryz.prog 103 #[.agg #[.int .i64 id,.int .i64 n,.string s,.string t]] w (PutP (V.put id ++ (nbs 4 n)) w) := by
 have HK := zh hk
 clear hk
 have HL := zh (V.put_len id)
 go_enter Tryz.func103,Tryz.ntmps103
 go_wp2_with fail
 refine (rput_use id _ (by omega) (by omega)).mono ?_
 rintro e w1 ⟨v1,rfl,hown1,hy1,hb1⟩
 have HR := zh (uh hy1).range
 have HB1 := bal1 hb1
 have c0 : w1.cell? ⟨w.heap.size,0,none⟩ = some (.int .i64 id) := (hb1.cell (p := ⟨w.heap.size,0,none⟩) (by simp)).trans (by simp)
 have c1 : w1.cell? ⟨w.heap.size,1,none⟩ = some (.int .i64 n) := (hb1.cell (p := ⟨w.heap.size,1,none⟩) (by simp)).trans (by simp)
 have c2 : w1.cell? ⟨w.heap.size,2,none⟩ = some (.string s) := (hb1.cell (p := ⟨w.heap.size,2,none⟩) (by simp)).trans (by simp)
 have c3 : w1.cell? ⟨w.heap.size,3,none⟩ = some (.string t) := (hb1.cell (p := ⟨w.heap.size,3,none⟩) (by simp)).trans (by simp)
 have hlw : w.heap.size < w1.heap.size := cell_lt c0
 have HO1 : Hid (w1.ownsRow w.heap.size 5 1 v1 (V.put id).length ((V.put id).map (Value.int .u8))) := owns_mono (uh hown1) (by simp)
 clear hb1 hown1 hy1
 go_wp2_with fail
 refine (kind_use _ 4 (uh HK) _).mono ?_
 rintro e w' ⟨rfl,hw⟩
 obtain rfl := hw.symm
 clear hw
 have HLE : Hid (((nbs 4 n)).length <= 65537) := (by show List.length _ <= _; unfold nbs; simp)
 go_wp2_with fail
 refine (high_use 4 n _ (.inr ⟨rfl,h1⟩) h0).mono ?_
 rintro e w2 ⟨v2,rfl,hy2,hb2⟩
 have HO2 : Hid (w2.ownsRow w.heap.size 5 1 v1 (V.put id).length ((V.put id).map (Value.int .u8))) := owns_below (uh HO1) hb2
 have HB2 : Hid (Below w.heap.size w w2) := (uh HB1).trans (hb2.mono (uh HB1).size)
 clear hb2 HB1 HO1 c0 c1 c2 c3
 go_wp2_with (first
  | (at_builtin; refine wpList_append_byt _ rfl _ _ rfl w.heap.size _ (V.put id).length (V.put id) rfl (uh HO2) v2 (nbs 4 n) rfl (uh hy2) (by have := uh HL; have := uh HLE; omega) (uh HB2).size ?_)
  | go_in)
 intro v3 w3 hown3 hgrow3
 have hb3 : Below w.heap.size w w3 := (uh HB2).grown hgrow3 (uh HB2).size (fun k hk => ((uh HO2).lt k hk).1)
 have HY3 : Hid (Byt w3 v3 (V.put id ++ (nbs 4 n))) := byt_of_owns (by rw [List.map_append]; exact hown3) (range_app (uh HR) (uh hy2).range)
 clear hown3 hgrow3
 go_wp2
 go_ret
 exact ⟨_,rfl,HY3,hb3⟩
theorem rpp_5 (id n : Int) (s t : ByteArray) (w : World) (hi : 1 <= id /\ id <= 42) (hk : kd id = 5) (h0 : 0 <= n) (h1 : n <= 268435455) : Calls Tryz.prog 103 #[.agg #[.int .i64 id,.int .i64 n,.string s,.string t]] w (PutP (V.put id ++ (V.put n)) w) := by
 have HK := zh hk
 clear hk
 have HL := zh (V.put_len id)
 go_enter Tryz.func103,Tryz.ntmps103
 go_wp2_with fail
 refine (rput_use id _ (by omega) (by omega)).mono ?_
 rintro e w1 ⟨v1,rfl,hown1,hy1,hb1⟩
 have HR := zh (uh hy1).range
 have HB1 := bal1 hb1
 have c0 : w1.cell? ⟨w.heap.size,0,none⟩ = some (.int .i64 id) := (hb1.cell (p := ⟨w.heap.size,0,none⟩) (by simp)).trans (by simp)
 have c1 : w1.cell? ⟨w.heap.size,1,none⟩ = some (.int .i64 n) := (hb1.cell (p := ⟨w.heap.size,1,none⟩) (by simp)).trans (by simp)
 have c2 : w1.cell? ⟨w.heap.size,2,none⟩ = some (.string s) := (hb1.cell (p := ⟨w.heap.size,2,none⟩) (by simp)).trans (by simp)
 have c3 : w1.cell? ⟨w.heap.size,3,none⟩ = some (.string t) := (hb1.cell (p := ⟨w.heap.size,3,none⟩) (by simp)).trans (by simp)
 have hlw : w.heap.size < w1.heap.size := cell_lt c0
 have HO1 : Hid (w1.ownsRow w.heap.size 5 1 v1 (V.put id).length ((V.put id).map (Value.int .u8))) := owns_mono (uh hown1) (by simp)
 clear hb1 hown1 hy1
 go_wp2_with fail
 refine (kind_use _ 5 (uh HK) _).mono ?_
 rintro e w' ⟨rfl,hw⟩
 obtain rfl := hw.symm
 clear hw
 have HLE : Hid ((V.put n).length <= 65537) := (by have := V.put_len n; show List.length _ <= _; omega)
 go_wp2_with fail
 refine (rput_use n _ h0 h1).mono ?_
 rintro e w2 ⟨v2,rfl,-,hy2,hb2⟩
 have HO2 : Hid (w2.ownsRow w.heap.size 5 1 v1 (V.put id).length ((V.put id).map (Value.int .u8))) := owns_below (uh HO1) hb2
 have HB2 : Hid (Below w.heap.size w w2) := (uh HB1).trans (hb2.mono (uh HB1).size)
 clear hb2 HB1 HO1 c0 c1 c2 c3
 go_wp2_with (first
  | (at_builtin; refine wpList_append_byt _ rfl _ _ rfl w.heap.size _ (V.put id).length (V.put id) rfl (uh HO2) v2 (V.put n) rfl (uh hy2) (by have := uh HL; have := uh HLE; omega) (uh HB2).size ?_)
  | go_in)
 intro v3 w3 hown3 hgrow3
 have hb3 : Below w.heap.size w w3 := (uh HB2).grown hgrow3 (uh HB2).size (fun k hk => ((uh HO2).lt k hk).1)
 have HY3 : Hid (Byt w3 v3 (V.put id ++ (V.put n))) := byt_of_owns (by rw [List.map_append]; exact hown3) (range_app (uh HR) (uh hy2).range)
 clear hown3 hgrow3
 go_wp2
 go_ret
 exact ⟨_,rfl,HY3,hb3⟩
theorem rpp_6 (id n : Int) (s t : ByteArray) (w : World) (hi : 1 <= id /\ id <= 42) (hk : kd id = 6) (hs : s.size <= 65535) : Calls Tryz.prog 103 #[.agg #[.int .i64 id,.int .i64 n,.string s,.string t]] w (PutP (V.put id ++ (tx s)) w) := by
 have HK := zh hk
 clear hk
 have HL := zh (V.put_len id)
 go_enter Tryz.func103,Tryz.ntmps103
 go_wp2_with fail
 refine (rput_use id _ (by omega) (by omega)).mono ?_
 rintro e w1 ⟨v1,rfl,hown1,hy1,hb1⟩
 have HR := zh (uh hy1).range
 have HB1 := bal1 hb1
 have c0 : w1.cell? ⟨w.heap.size,0,none⟩ = some (.int .i64 id) := (hb1.cell (p := ⟨w.heap.size,0,none⟩) (by simp)).trans (by simp)
 have c1 : w1.cell? ⟨w.heap.size,1,none⟩ = some (.int .i64 n) := (hb1.cell (p := ⟨w.heap.size,1,none⟩) (by simp)).trans (by simp)
 have c2 : w1.cell? ⟨w.heap.size,2,none⟩ = some (.string s) := (hb1.cell (p := ⟨w.heap.size,2,none⟩) (by simp)).trans (by simp)
 have c3 : w1.cell? ⟨w.heap.size,3,none⟩ = some (.string t) := (hb1.cell (p := ⟨w.heap.size,3,none⟩) (by simp)).trans (by simp)
 have hlw : w.heap.size < w1.heap.size := cell_lt c0
 have HO1 : Hid (w1.ownsRow w.heap.size 5 1 v1 (V.put id).length ((V.put id).map (Value.int .u8))) := owns_mono (uh hown1) (by simp)
 clear hb1 hown1 hy1
 go_wp2_with fail
 refine (kind_use _ 6 (uh HK) _).mono ?_
 rintro e w' ⟨rfl,hw⟩
 obtain rfl := hw.symm
 clear hw
 have HLE : Hid (((tx s)).length <= 65537) := (tx_len_le s hs)
 go_wp2_with fail
 refine (bin_use s _ hs).mono ?_
 rintro e w2 ⟨v2,rfl,hy2,hb2⟩
 have HO2 : Hid (w2.ownsRow w.heap.size 5 1 v1 (V.put id).length ((V.put id).map (Value.int .u8))) := owns_below (uh HO1) hb2
 have HB2 : Hid (Below w.heap.size w w2) := (uh HB1).trans (hb2.mono (uh HB1).size)
 clear hb2 HB1 HO1 c0 c1 c2 c3
 go_wp2_with (first
  | (at_builtin; refine wpList_append_byt _ rfl _ _ rfl w.heap.size _ (V.put id).length (V.put id) rfl (uh HO2) v2 (tx s) rfl (uh hy2) (by have := uh HL; have := uh HLE; omega) (uh HB2).size ?_)
  | go_in)
 intro v3 w3 hown3 hgrow3
 have hb3 : Below w.heap.size w w3 := (uh HB2).grown hgrow3 (uh HB2).size (fun k hk => ((uh HO2).lt k hk).1)
 have HY3 : Hid (Byt w3 v3 (V.put id ++ (tx s))) := byt_of_owns (by rw [List.map_append]; exact hown3) (range_app (uh HR) (uh hy2).range)
 clear hown3 hgrow3
 go_wp2
 go_ret
 exact ⟨_,rfl,HY3,hb3⟩
theorem rpp_7 (id n : Int) (s t : ByteArray) (w : World) (hi : 1 <= id /\ id <= 42) (hk : kd id = 7) (hs : s.size <= 65535) : Calls Tryz.prog 103 #[.agg #[.int .i64 id,.int .i64 n,.string s,.string t]] w (PutP (V.put id ++ (tx s)) w) := by
 have HK := zh hk
 clear hk
 have HL := zh (V.put_len id)
 go_enter Tryz.func103,Tryz.ntmps103
 go_wp2_with fail
 refine (rput_use id _ (by omega) (by omega)).mono ?_
 rintro e w1 ⟨v1,rfl,hown1,hy1,hb1⟩
 have HR := zh (uh hy1).range
 have HB1 := bal1 hb1
 have c0 : w1.cell? ⟨w.heap.size,0,none⟩ = some (.int .i64 id) := (hb1.cell (p := ⟨w.heap.size,0,none⟩) (by simp)).trans (by simp)
 have c1 : w1.cell? ⟨w.heap.size,1,none⟩ = some (.int .i64 n) := (hb1.cell (p := ⟨w.heap.size,1,none⟩) (by simp)).trans (by simp)
 have c2 : w1.cell? ⟨w.heap.size,2,none⟩ = some (.string s) := (hb1.cell (p := ⟨w.heap.size,2,none⟩) (by simp)).trans (by simp)
 have c3 : w1.cell? ⟨w.heap.size,3,none⟩ = some (.string t) := (hb1.cell (p := ⟨w.heap.size,3,none⟩) (by simp)).trans (by simp)
 have hlw : w.heap.size < w1.heap.size := cell_lt c0
 have HO1 : Hid (w1.ownsRow w.heap.size 5 1 v1 (V.put id).length ((V.put id).map (Value.int .u8))) := owns_mono (uh hown1) (by simp)
 clear hb1 hown1 hy1
 go_wp2_with fail
 refine (kind_use _ 7 (uh HK) _).mono ?_
 rintro e w' ⟨rfl,hw⟩
 obtain rfl := hw.symm
 clear hw
 have HLE : Hid (((tx s)).length <= 65537) := (tx_len_le s hs)
 go_wp2_with fail
 refine (bin_use s _ hs).mono ?_
 rintro e w2 ⟨v2,rfl,hy2,hb2⟩
 have HO2 : Hid (w2.ownsRow w.heap.size 5 1 v1 (V.put id).length ((V.put id).map (Value.int .u8))) := owns_below (uh HO1) hb2
 have HB2 : Hid (Below w.heap.size w w2) := (uh HB1).trans (hb2.mono (uh HB1).size)
 clear hb2 HB1 HO1 c0 c1 c2 c3
 go_wp2_with (first
  | (at_builtin; refine wpList_append_byt _ rfl _ _ rfl w.heap.size _ (V.put id).length (V.put id) rfl (uh HO2) v2 (tx s) rfl (uh hy2) (by have := uh HL; have := uh HLE; omega) (uh HB2).size ?_)
  | go_in)
 intro v3 w3 hown3 hgrow3
 have hb3 : Below w.heap.size w w3 := (uh HB2).grown hgrow3 (uh HB2).size (fun k hk => ((uh HO2).lt k hk).1)
 have HY3 : Hid (Byt w3 v3 (V.put id ++ (tx s))) := byt_of_owns (by rw [List.map_append]; exact hown3) (range_app (uh HR) (uh hy2).range)
 clear hown3 hgrow3
 go_wp2
 go_ret
 exact ⟨_,rfl,HY3,hb3⟩
theorem rpp_1 (id n : Int) (s t : ByteArray) (w : World) (hi : 1 <= id /\ id <= 42) (hk : kd id = 1) (h0 : 0 <= n) (h1 : n <= 1) : Calls Tryz.prog 103 #[.agg #[.int .i64 id,.int .i64 n,.string s,.string t]] w (PutP (V.put id ++ [n]) w) := by
 have HK := zh hk
 clear hk
 have HL := zh (V.put_len id)
 go_enter Tryz.func103,Tryz.ntmps103
 go_wp2_with fail
 refine (rput_use id _ (by omega) (by omega)).mono ?_
 rintro e w1 ⟨v1,rfl,hown1,hy1,hb1⟩
 have HR := zh (uh hy1).range
 have HB1 := bal1 hb1
 have c0 : w1.cell? ⟨w.heap.size,0,none⟩ = some (.int .i64 id) := (hb1.cell (p := ⟨w.heap.size,0,none⟩) (by simp)).trans (by simp)
 have c1 : w1.cell? ⟨w.heap.size,1,none⟩ = some (.int .i64 n) := (hb1.cell (p := ⟨w.heap.size,1,none⟩) (by simp)).trans (by simp)
 have c2 : w1.cell? ⟨w.heap.size,2,none⟩ = some (.string s) := (hb1.cell (p := ⟨w.heap.size,2,none⟩) (by simp)).trans (by simp)
 have c3 : w1.cell? ⟨w.heap.size,3,none⟩ = some (.string t) := (hb1.cell (p := ⟨w.heap.size,3,none⟩) (by simp)).trans (by simp)
 have hlw : w.heap.size < w1.heap.size := cell_lt c0
 have HO1 : Hid (w1.ownsRow w.heap.size 5 1 v1 (V.put id).length ((V.put id).map (Value.int .u8))) := owns_mono (uh hown1) (by simp)
 clear hb1 hown1 hy1
 go_wp2_with fail
 refine (kind_use _ 1 (uh HK) _).mono ?_
 rintro e w' ⟨rfl,hw⟩
 obtain rfl := hw.symm
 clear hw
 obtain ⟨i0,hi0,hz0,hz1,hz2⟩ := info_parts Tryz.infoU8
 go_wp2_with (first
  | (at_builtin; refine wpList_append_own _ rfl _ _ 31 rfl w.heap.size 5 i0 (.int .u8 0) 1 1 Tryz.underlying31 hi0 hz0 hz1 hz2 rfl (by decide) _ _ _ rfl ((uh HO1).alloc _) ⟨w1.heap.size,0,none⟩ 1 1 [.int .u8 n] rfl rfl (one_cell _ _ _) (one_one _ _) (by have := uh HL; unfold maxLen; omega) (by have := uh HL; omega) (by have := (uh HB1).size; simp <;> omega) ?_)
  | go_in)
 intro v3 w3 hown3 hgrow3 _
 have hb3 : Below w.heap.size w w3 := ((uh HB1).alloc (uh HB1).size _).grown hgrow3 (by have := (uh HB1).size; simp <;> omega) (fun k hk => ((uh HO1).lt k hk).1)
 have HY3 : Hid (Byt w3 v3 (V.put id ++ [n])) := byt_of_owns (by rw [List.map_append]; exact hown3) (range_app (uh HR) (fun j => by rcases j with _ | j <;> simp <;> omega))
 clear hown3 hgrow3
 go_wp2
 go_ret
 exact ⟨_,rfl,HY3,hb3⟩
theorem own_ne {w : World} {B e : Nat} {q : Nat} {v : Value} {n : Nat} {xs : List Value} (h : w.ownsRow (B + 1) e q v n xs) {i : Nat} : some (⟨B,i,none⟩ : Addr).block ≠ v.ownBlock := fun he => by
 have := (h.lt B he.symm).1
 omega
theorem rpp_8 (id n : Int) (s t : ByteArray) (w : World) (hi : 1 <= id /\ id <= 42) (hk : kd id = 8) (hs : s.size <= 65535) (ht : t.size <= 65535) : Calls Tryz.prog 103 #[.agg #[.int .i64 id,.int .i64 n,.string s,.string t]] w (PutP (V.put id ++ (tx s ++ tx t)) w) := by
 have HK := zh hk
 clear hk
 have HL := zh (V.put_len id)
 go_enter Tryz.func103,Tryz.ntmps103
 go_wp2_with fail
 refine (rput_use id _ (by omega) (by omega)).mono ?_
 rintro e w1 ⟨v1,rfl,hown1,hy1,hb1⟩
 have HR := zh (uh hy1).range
 have HB1 := bal1 hb1
 have c0 : w1.cell? ⟨w.heap.size,0,none⟩ = some (.int .i64 id) := (hb1.cell (p := ⟨w.heap.size,0,none⟩) (by simp)).trans (by simp)
 have c1 : w1.cell? ⟨w.heap.size,1,none⟩ = some (.int .i64 n) := (hb1.cell (p := ⟨w.heap.size,1,none⟩) (by simp)).trans (by simp)
 have c2 : w1.cell? ⟨w.heap.size,2,none⟩ = some (.string s) := (hb1.cell (p := ⟨w.heap.size,2,none⟩) (by simp)).trans (by simp)
 have c3 : w1.cell? ⟨w.heap.size,3,none⟩ = some (.string t) := (hb1.cell (p := ⟨w.heap.size,3,none⟩) (by simp)).trans (by simp)
 have hlw : w.heap.size < w1.heap.size := cell_lt c0
 have HO1 : Hid (w1.ownsRow (w.heap.size + 1) 5 1 v1 (V.put id).length ((V.put id).map (Value.int .u8))) := owns_mono (uh hown1) (by simp)
 clear hb1 hown1 hy1
 go_wp2_with fail
 refine (kind_use _ 8 (uh HK) _).mono ?_
 rintro e w' ⟨rfl,hw⟩
 obtain rfl := hw.symm
 clear hw
 have HC : Hid (∀ W,Below w1.heap.size w1 W -> W.cell? ⟨w.heap.size,2,none⟩ = some (.string s) /\ W.cell? ⟨w.heap.size,3,none⟩ = some (.string t)) := fun W h => ⟨(h.cell (p := ⟨w.heap.size,2,none⟩) hlw).trans c2,(h.cell (p := ⟨w.heap.size,3,none⟩) hlw).trans c3⟩
 go_wp2_with fail
 refine wp_region_noPanic ?_
 refine wp_region_held_drew (S := (fun w' => w'.cell? ⟨w.heap.size,2,none⟩ = some (.string s) /\ w'.cell? ⟨w.heap.size,3,none⟩ = some (.string t))) (by kernel_rfl) ((uh HC) _ (below_drewN (Below.refl _ _) 1)) (fun hHeld => ?_)
 refine rtk 0 (h := ?_)
 refine rtk 1 (h := ?_)
 refine rtk 2 (h := ?_)
 refine rtk 5 (h := ?_)
 refine rtk 6 (h := ?_)
 refine rcl 3 (h := fun K hK => ?_)
 go_simp
 refine (bin_use s _ hs).mono ?_
 rintro e w2 ⟨v2,rfl,hy2,hb2⟩
 have HB2 : Hid (Below w1.heap.size w1 w2) := below_undrew1 hb2
 have HO2 : Hid (w2.ownsRow (w.heap.size + 1) 5 1 v1 (V.put id).length ((V.put id).map (Value.int .u8))) := owns_below (uh HO1) (uh HB2)
 clear hb2
 go_wp2_with fail
 refine hK.out _ _ ((uh HC) _ (uh HB2)) (fun hHeld => ?_)
 clear hK K
 refine wpAnyH_ready (rs := [4]) (by kernel_rfl) (by simp) ?_
 refine AllReadyH.cons (o := { dst := some 45,op := Op.call { callee := Callee.builtin Builtin.append,args := #[Operand.tmp 41,Operand.tmp 44],argTypes := #[31,31] },type := 31,pos := "dovecoteref3.go:149",after := #[{ on := 0,ground := Ground.data },{ on := 3,ground := Ground.data },{ on := 3,ground := Ground.chain }],guard := none }) rfl (fun K hK => ?_) AllReadyH.nil
 refine step_append_byt rfl _ _ rfl (w.heap.size + 1) v1 (V.put id).length (V.put id) rfl (uh HO2) v2 (tx s) rfl (uh hy2) (by have := uh HL; rw [tx_length]; omega) (by have := (uh HB2).size; omega) ?_
 intro v3 w3 hown3 hgrow3
 have HB3 : Hid (Below w.heap.size w w3) := ((uh HB1).trans ((uh HB2).mono (uh HB1).size)).grown hgrow3 (by have := (uh HB2).size; omega) (fun g hg => (by have := ((uh HO2).lt g hg).1; omega))
 have HN3 : Hid (w3.cell? ⟨w.heap.size,2,none⟩ = some (.string s) /\ w3.cell? ⟨w.heap.size,3,none⟩ = some (.string t)) := by
  have hc := (uh HC) w2 (uh HB2)
  exact ⟨hgrow3.cell hc.1 (own_ne (uh HO2)),hgrow3.cell hc.2 (own_ne (uh HO2))⟩
 have HO3 := zh hown3
 clear hown3 hgrow3
 refine hK.out _ _ (by exact uh HN3) (fun hHeld => ?_)
 clear hK K
 simp only [Act.put,List.setIfInBounds_toArray,List.set_cons_zero,List.set_cons_succ]
 refine rcl 7 (h := fun K hK => ?_)
 go_simp
 refine (bin_use t _ ht).mono ?_
 rintro e w4 ⟨v4,rfl,hy4,hb4⟩
 have HB4 : Hid (Below w.heap.size w w4) := (uh HB3).trans (hb4.mono (uh HB3).size)
 have HO4 := zh (owns_below (uh HO3) hb4)
 have HN4 : Hid (w4.cell? ⟨w.heap.size,2,none⟩ = some (.string s) /\ w4.cell? ⟨w.heap.size,3,none⟩ = some (.string t)) := ⟨(hb4.cell (cell_lt (uh HN3).1)).trans (uh HN3).1,(hb4.cell (cell_lt (uh HN3).2)).trans (uh HN3).2⟩
 clear hb4
 go_wp2_with fail
 refine hK.out _ _ (by exact uh HN4) (fun hHeld => ?_)
 clear hK K
 refine wpAnyH_ready (rs := [8]) (by kernel_rfl) (by simp) ?_
 refine AllReadyH.cons (o := { dst := some 49,op := Op.call { callee := Callee.builtin Builtin.append,args := #[Operand.tmp 45,Operand.tmp 48],argTypes := #[31,31] },type := 31,pos := "dovecoteref3.go:149",after := #[{ on := 4,ground := Ground.data },{ on := 7,ground := Ground.data },{ on := 7,ground := Ground.chain }],guard := none }) rfl (fun K hK => ?_) AllReadyH.nil
 refine step_append_byt rfl _ _ rfl (w.heap.size + 1) v3 _ (V.put id ++ tx s) rfl (uh HO4) v4 (tx t) rfl (uh hy4) (by have := uh HL; rw [tx_length,tx_length]; omega) (by have := cell_lt (uh HN4).1; simp at this; omega) ?_
 intro v5 w5 hown5 hgrow5
 have HB5 : Hid (Below w.heap.size w w5) := (uh HB4).grown hgrow5 (uh HB4).size (fun g hg => (by have := ((uh HO4).lt g hg).1; omega))
 have HN5 : Hid (w5.cell? ⟨w.heap.size,2,none⟩ = some (.string s) /\ w5.cell? ⟨w.heap.size,3,none⟩ = some (.string t)) := ⟨hgrow5.cell (uh HN4).1 (own_ne (uh HO4)),hgrow5.cell (uh HN4).2 (own_ne (uh HO4))⟩
 have HY5 : Hid (Byt w5 v5 (V.put id ++ (tx s ++ tx t))) := by
  rw [<- List.append_assoc]
  exact byt_of_owns hown5 (range_app (range_app (uh HR) (tx_range s hs)) (tx_range t ht))
 clear hown5 hgrow5
 refine hK.out _ _ (by exact uh HN5) (fun hHeld => ?_)
 clear hK K
 simp only [Act.put,List.setIfInBounds_toArray,List.set_cons_zero,List.set_cons_succ]
 refine rtk 9 (h := ?_)
 refine wpAnyH_done (by kernel_rfl) ?_ _
 refine NoPanic.normal ?_
 go_wp2
 go_ret
 exact ⟨_,rfl,HY5,uh HB5⟩
theorem rput3 (id n : Int) (s t : ByteArray) (w : World) (hi : 1 <= id /\ id <= 42) (hm : may (id,n,s,t) = true) : Calls Tryz.prog 103 #[.agg #[.int .i64 id,.int .i64 n,.string s,.string t]] w (PutP (pb (id,n,s,t)) w) := by
 have hpb : pb (id,n,s,t) = V.put id ++ pvb (id,n,s,t) := rfl
 rw [hpb]
 unfold may at hm
 rw [Bool.and_eq_true] at hm
 obtain ⟨hf,ht⟩ := hm
 obtain ⟨h0,h1,h2⟩ := fit_num hf
 have hx : mx id = (if kd id = 1 then 1 else if kd id = 2 then 65535 else if kd id = 4 then 4294967295 else if kd id = 5 then 268435455 else 0) := rfl
 rcases kd_cases id with h | h | h | h | h | h | h | h
 ·unfold txo at ht; simp [h] at ht
 ·rw [show pvb (id,n,s,t) = [n] from by unfold pvb; simp [h]]
  rw [if_pos h] at hx
  exact rpp_1 id n s t w hi h h0 (by omega)
 ·rw [pvb_num id n s t 2 h (by omega)]
  rw [if_neg (by omega),if_pos h] at hx
  exact rpp_2 id n s t w hi h h0 (by omega)
 ·rw [pvb_num id n s t 4 h (by omega)]
  rw [if_neg (by omega),if_neg (by omega),if_pos h] at hx
  exact rpp_4 id n s t w hi h h0 (by omega)
 ·rw [show pvb (id,n,s,t) = V.put n from by unfold pvb; simp [h]]
  rw [if_neg (by omega),if_neg (by omega),if_neg (by omega),if_pos h] at hx
  exact rpp_5 id n s t w hi h h0 (by omega)
 ·rw [show pvb (id,n,s,t) = tx s from by unfold pvb; simp [h]]
  have hc : chk (sb s) = 0 := by unfold txo at ht; simpa [h] using ht
  exact rpp_6 id n s t w hi h (by have := chk_0 hc; rw [sb_length] at this; exact this)
 ·rw [show pvb (id,n,s,t) = tx s from by unfold pvb; simp [h]]
  exact rpp_7 id n s t w hi h (by unfold txo at ht; simpa [h] using ht)
 ·rw [show pvb (id,n,s,t) = tx s ++ tx t from by unfold pvb; simp [h]]
  have hc : chk (sb s) = 0 /\ chk (sb t) = 0 := by unfold txo at ht; simpa [h] using ht
  exact rpp_8 id n s t w hi h (by have := chk_0 hc.1; rw [sb_length] at this; exact this) (by have := chk_0 hc.2; rw [sb_length] at this; exact this)
theorem rbytes_core (b off cap : Nat) (l : List Pr) (len : Nat) (place : Int) (w : World) (hlen : l.length = len) (h200 : len <= 200) (hok : okTo place l len) (hl : PrAt w b off l) :
  Calls Tryz.prog 68 #[.slice (some ⟨b,off,none⟩) len cap] w (PutP (pbs l) w) := by
 have HL := zh hl
 have HLEN := zh hlen
 have HOK := zh hok
 clear hl hlen hok
 go_enter Tryz.func68,Tryz.ntmps68
 go_wp2
 go_loopw [3,4] (fun v i wr => ∃ k S : Nat,k <= len /\ i = .int .i64 k /\ S <= k * 131078 /\ Hid ((body (l.take k)).length = S) /\ Hid (wr.ownsRow w.heap.size 5 1 v S ((body (l.take k)).map (Value.int .u8))) /\ Hid (∀ j,0 <= (body (l.take k)).getD j 0 /\ (body (l.take k)).getD j 0 <= 255) /\ Below w.heap.size w wr) (fun _ i _ => len - (intOf i).toNat)
 case atStart => exact ⟨0,0,Nat.zero_le _,rfl,by omega,by simp [body]; trivial,World.ownsRow_nil _ _ _ _,fun j => by simp [body],Below.refl _ _⟩
 case round =>
  obtain ⟨k,S,hk,rfl,hS,HS,HOWN,HRG,hbel⟩ := hrel
  by_cases hlt : k < len
  ·have HLTk : Hid (k < l.length) := by show _ < _; rw [uh HLEN]; exact hlt
   obtain ⟨h0,h1,h2,h3⟩ := ((uh HL).below hbel) k (uh HLTk)
   have hmm := okAt_may ((uh HOK) k hlt)
   have HPB := zh (body_take l k (uh HLTk))
   obtain ⟨id,n,s,t,hp⟩ : ∃ id n s t,at0 l k = (id,n,s,t) := ⟨_,_,_,_,rfl⟩
   rw [hp] at h0 h1 h2 h3 HPB hmm
   simp only at h0 h1 h2 h3 hmm
   have hpl := pb_le _ hmm.1
   have HV := zh (fun W => rput3 id n s t W (id_range _ _ hmm.2) hmm.1)
   have HBEL := zh hbel
   have hsz := hbel.size
   clear hp hbel hmm
   generalize pb (id,n,s,t) = L at HV hpl HPB
   go_wp2_with fail
   refine ((uh HV) _).mono ?_
   rintro e w2 ⟨v2,rfl,hy2,hb2⟩
   have HO2 : Hid (w2.ownsRow w.heap.size 5 1 u3 S ((body (l.take k)).map (Value.int .u8))) := owns_below (uh HOWN) hb2
   have HB2 : Hid (Below w.heap.size w w2) := (uh HBEL).trans (hb2.mono hsz)
   clear hb2 HBEL HOWN h0 h1 h2 h3 HV
   go_wp2_with (first
    | (at_builtin; refine wpList_append_byt _ rfl _ _ rfl w.heap.size _ S (body (l.take k)) rfl (uh HO2) v2 L rfl (uh hy2) (by omega) (uh HB2).size ?_)
    | go_in)
   intro v4 w4 hown4 hgrow4
   have HB4 : Hid (Below w.heap.size w w4) := (uh HB2).grown hgrow4 (uh HB2).size (fun g hg => ((uh HO2).lt g hg).1)
   have HS4 : Hid ((body (l.take (k + 1))).length = S + L.length) := by show _ = _; rw [uh HPB,List.length_append,uh HS]
   have HOWN4 : Hid (w4.ownsRow w.heap.size 5 1 v4 (S + L.length) ((body (l.take (k + 1))).map (Value.int .u8))) := by
    show World.ownsRow _ _ _ _ _ _ _
    rw [uh HPB,List.map_append]
    exact hown4
   have HRG4 : Hid (∀ j,0 <= (body (l.take (k + 1))).getD j 0 /\ (body (l.take (k + 1))).getD j 0 <= 255) := by
    show ∀ j,_
    rw [uh HPB]
    exact range_app (uh HRG) (uh hy2).range
   clear hown4 hgrow4
   go_wp2
   go_roundw
   case rel => exact ⟨k + 1,S + L.length,by omega,by go_num,by omega,HS4,HOWN4,HRG4,uh HB4⟩
   case measure => simp [intOf]; omega
  ·obtain rfl : k = len := by omega
   have HT : Hid (l.take k = l) := List.take_of_length_le (Nat.le_of_eq (uh HLEN))
   rw [uh HT] at HS HOWN HRG
   have HZ : Hid (pbs l = V.put S ++ body l) := by show pbs l = _; unfold pbs; rw [uh HS]
   have HPL := zh (V.put_len S)
   have HBEL := zh hbel
   have HOF := zh (uh HOWN)
   obtain ⟨ao,vc,hv⟩ : ∃ ao vc,u3 = .slice ao S vc := by
    have hb := byt_of_owns (uh HOWN) (uh HRG)
    obtain ⟨ao,vc,h,_⟩ := hb.form
    rw [uh HS] at h
    exact ⟨ao,vc,h⟩
   subst hv
   clear hbel
   go_wp2_with fail
   refine (rput_use S _ (by omega) (by omega)).mono ?_
   rintro e w2 ⟨v2,rfl,hown2,hy2,hb2⟩
   have HB2 : Hid (Below w.heap.size w w2) := (uh HBEL).trans (hb2.mono (uh HBEL).size)
   have HO2 : Hid (w2.ownsRow w.heap.size 5 1 v2 (V.put S).length ((V.put S).map (Value.int .u8))) := owns_mono (uh hown2) (uh HBEL).size
   have HYB : Hid (Byt w2 (.slice ao S vc) (body l)) := (byt_of_owns (uh HOWN) (uh HRG)).below hb2
   clear hb2 hown2
   go_wp2_with (first
    | (at_builtin; refine wpList_append_byt _ rfl _ _ rfl w.heap.size _ (V.put S).length (V.put S) rfl (uh HO2) (.slice ao S vc) (body l) rfl (uh HYB) (by have := uh HPL; have := uh HS; omega) (uh HB2).size ?_)
    | go_in)
   intro v4 w4 hown4 hgrow4
   have HB4 : Hid (Below w.heap.size w w4) := (uh HB2).grown hgrow4 (uh HB2).size (fun g hg => ((uh HO2).lt g hg).1)
   have HY4 : Hid (Byt w4 v4 (pbs l)) := by
    show Byt _ _ _
    rw [uh HZ]
    exact byt_of_owns (by rw [List.map_append]; exact hown4) (range_app (uh hy2).range (uh HRG))
   clear hown4 hgrow4
   go_wp2
   go_ret
   exact ⟨_,rfl,HY4,uh HB4⟩
theorem put_zero : V.put 0 = [0] := rfl
theorem rbytes_nil (ao : Option Addr) (cap : Nat) (w : World) : Calls Tryz.prog 68 #[.slice ao 0 cap] w (PutP (pbs []) w) := by
 have HZ : Hid (pbs [] = [0]) := rfl
 go_enter Tryz.func68,Tryz.ntmps68
 go_wp2
 refine wp_loop_rounds 1 ?_
 rw [rounds_succ]
 go_wp2_with fail
 refine (rput_use 0 _ (by omega) (by omega)).mono ?_
 rintro e w2 ⟨v2,rfl,hown2,hy2,hb2⟩
 have HB2 := zh hb2
 have HE : Hid (Byt w2 (.slice none 0 0) []) := ⟨none,0,rfl,⟨Nat.le_refl _,by unfold maxLen; omega⟩,fun j => by simp,.inl rfl⟩
 clear hb2
 go_wp2_with (first
  | (at_builtin; refine wpList_append_byt _ rfl _ _ rfl w.heap.size _ (V.put 0).length (V.put 0) rfl (uh hown2) (.slice none 0 0) [] rfl (uh HE) (by simp [put_zero]) (uh HB2).size ?_)
  | go_in)
 intro v4 w4 hown4 hgrow4
 have HB4 : Hid (Below w.heap.size w w4) := (uh HB2).grown hgrow4 (uh HB2).size (fun g hg => ((uh hown2).lt g hg).1)
 have HY4 : Hid (Byt w4 v4 (pbs [])) := by
  show Byt _ _ _
  rw [uh HZ]
  exact byt_of_owns (by simpa [put_zero] using hown4) (fun j => by rcases j with _ | j <;> simp)
 clear hown4 hgrow4
 go_wp2
 go_ret
 exact ⟨_,rfl,HY4,uh HB4⟩
theorem rbytes_any (v : Value) (l : List Pr) (place : Int) (w : World) (h : Prp w v l) (h200 : l.length <= 200) (hok : okTo place l l.length) : Calls Tryz.prog 68 #[v] w (PutP (pbs l) w) := by
 obtain ⟨ao,cap,rfl,hc⟩ := h
 rcases hc with rfl | ⟨b,off,rfl,hc⟩
 ·exact rbytes_nil ao cap w
 ·exact rbytes_core b off cap l _ place w rfl h200 hok hc
end Go.Proofs.YtemedclhglkfjaaGreatDoor
