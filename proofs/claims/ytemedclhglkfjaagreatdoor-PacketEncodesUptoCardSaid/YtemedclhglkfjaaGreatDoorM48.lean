/- Proved here: helpers, one text behind the other. -/
import Derived.Test.YtemedclhglkfjaaGreatDoorM45
import Derived.Test.YtemedclhglkfjaaGreatDoorM47
import Derived.Test.YtemedclhglkfjaaGreatDoorM37
import Derived.Test.YtemedclhglkfjaaGreatDoorZKLoad
import Derived.Test.YtemedclhglkfjaaGreatDoorZKTk
import Derived.Test.YtemedclhglkfjaaGreatDoorM43
import Derived.Deep.Cut
set_option maxHeartbeats 20000000
namespace Go.Proofs.YtemedclhglkfjaaGreatDoor.K
open Go.RowKit
set_option maxRecDepth 100000
theorem gtext_any (s : ByteArray) (c : Bool) (hc : okT s = c) (w : World) (hs : s.size <= 4611686018427387904) : Calls Tryz.prog 59 #[.string s] w fun e w' => e = .returned (.bool c) /\ Below w.heap.size w w' := by
 subst hc
 unfold okT
 have HR := zh (rcheck_any s w hs)
 by_cases h : chk (sb s) = 0
 ·rw [h] at HR |-
  go_enter Tryz.func59,Tryz.ntmps59
  go_wp2_with fail
  refine (uh HR).mono ?_
  rintro e w1 ⟨rfl,hb⟩
  have HB := zh hb
  clear hb
  go_wp2
  go_ret
  exact ⟨rfl,uh HB⟩
 ·rw [decide_eq_false h]
  generalize chk (sb s) = n at h HR
  have hn : (n == 0) = false := beq_false_of_ne h
  go_enter Tryz.func59,Tryz.ntmps59
  go_wp2_with fail
  refine (uh HR).mono ?_
  rintro e w1 ⟨rfl,hb⟩
  have HB := zh hb
  clear hb
  go_wp2
  go_ret
  exact ⟨rfl,uh HB⟩
def idO (n : Int) : Bool := decide (1 <= n) && decide (n <= 65535)
theorem gid_any (n : Int) (w : World) : Calls Tryz.prog 62 #[.int .i64 n] w fun e w' => e = .returned (.bool (idO n)) /\ w' = w := by
 unfold idO
 by_cases h : 1 <= n
 ·rw [decide_eq_true h]
  go_enter Tryz.func62,Tryz.ntmps62
  go_wp2
  go_ret
  exact ⟨rfl,rfl⟩
 ·rw [decide_eq_false h]
  go_enter Tryz.func62,Tryz.ntmps62
  go_wp2
  go_ret
  exact ⟨rfl,rfl⟩
def codeO (n : Int) : Bool := decide (0 <= n) && decide (n <= 255)
theorem gcode_any (n : Int) (w : World) : Calls Tryz.prog 61 #[.int .i64 n] w fun e w' => e = .returned (.bool (codeO n)) /\ w' = w := by
 unfold codeO
 by_cases h : 0 <= n
 ·rw [decide_eq_true h]
  go_enter Tryz.func61,Tryz.ntmps61
  go_wp2
  go_ret
  exact ⟨rfl,rfl⟩
 ·rw [decide_eq_false h]
  go_enter Tryz.func61,Tryz.ntmps61
  go_wp2
  go_ret
  exact ⟨rfl,rfl⟩
theorem gsome_any (n : Int) (w : World) : Calls Tryz.prog 63 #[.int .i64 n] w fun e w' => e = .returned (.bool (mc n)) /\ w' = w := by
 unfold mc
 by_cases h : 1 <= n
 ·rw [decide_eq_true h]
  go_enter Tryz.func63,Tryz.ntmps63
  go_wp2
  go_ret
  exact ⟨rfl,rfl⟩
 ·rw [decide_eq_false h]
  go_enter Tryz.func63,Tryz.ntmps63
  go_wp2
  go_ret
  exact ⟨rfl,rfl⟩
theorem grchk_any (v : Value) (l : List Pr) (place : Int) (w : World) (h : Prp w v l) (hmx : l.length <= 1000000000) (hsm : Go.Proofs.YtemedclhglkfjaaGreatDoor.Small l) : Calls Tryz.prog 102 #[v,.int .i64 place] w fun e w' => e = .returned (.int .i64 (chkP place l)) /\ Below w.heap.size w w' := by
 obtain ⟨ao,cap,rfl,hc⟩ := h
 rcases hc with rfl | ⟨b,off,rfl,hc⟩
 ·have HC : Hid (chkP place [] = 0) := chkP_ok place [] (fun i hi => absurd hi (Nat.not_lt_zero i)) (by simp)
  go_enter Tryz.func102,Tryz.ntmps102
  go_wp2
  refine wp_loop_rounds 1 ?_
  rw [rounds_succ]
  go_wp2
  go_ret
  exact ⟨ret_int (uh HC).symm,Below.refl _ _⟩
 ·exact rchk_core b off cap l _ place w rfl hmx hsm hc
theorem gprops_any (v : Value) (l : List Pr) (place : Int) (w : World) (h : Prp w v l) (hmx : l.length <= 1000000000) (hsm : Go.Proofs.YtemedclhglkfjaaGreatDoor.Small l) : Calls Tryz.prog 65 #[v,.int .i64 place] w fun e w' => e = .returned (.bool (okP place l)) /\ Below w.heap.size w w' := by
 have HR := zh (grchk_any v l place w h hmx hsm)
 obtain ⟨ao,cap,rfl⟩ := h.form
 unfold okP
 clear h hsm
 by_cases h : chkP place l = 0
 ·rw [h] at HR |-
  go_enter Tryz.func65,Tryz.ntmps65
  go_wp2_with fail
  refine (uh HR).mono ?_
  rintro e w1 ⟨rfl,hb⟩
  have HB := zh hb
  clear hb
  go_wp2
  go_ret
  exact ⟨rfl,uh HB⟩
 ·rw [decide_eq_false h]
  generalize chkP place l = n at h HR
  have hn : (n == 0) = false := beq_false_of_ne h
  go_enter Tryz.func65,Tryz.ntmps65
  go_wp2_with fail
  refine (uh HR).mono ?_
  rintro e w1 ⟨rfl,hb⟩
  have HB := zh hb
  clear hb
  go_wp2
  go_ret
  exact ⟨rfl,uh HB⟩
def mwB (u : Wl) : Bool := okT u.topic && (okB u.payload && (decide (0 <= u.qos) && (decide (u.qos <= 2) && okP 16 u.props)))
theorem mayWill_any (u : Wl) (ao : Option Addr) (n cap : Nat) (w : World) (hP : Prp w (.slice ao n cap) u.props) (hto : u.topic.size <= 4611686018427387904) (hmx : u.props.length <= 1000000000) (hsm : Go.Proofs.YtemedclhglkfjaaGreatDoor.Small u.props) (hpy : u.payload.size <= 4611686018427387904) :
  Calls Tryz.prog 60 #[.agg #[.string u.topic,.string u.payload,.int .i64 u.qos,.bool u.retain,.slice ao n cap]] w fun e w' => e = .returned (.bool (mwB u)) /\ Below w.heap.size w w' := by
 obtain ⟨tp,pa,qo,re,pr⟩ := u
 dsimp only at *
 have HB0 : Hid (Below w.heap.size w (w.alloc (.cells #[.string tp,.string pa,.int .i64 qo,.bool re,.slice ao n cap] 52))) := bal _ _
 have HP := zh (hP.below (uh HB0))
 have HSM := zh hsm
 clear hP hsm
 cases ht : okT tp
 ·have HE : Hid (mwB ⟨tp,pa,qo,re,pr⟩ = false) := by show _ = _; unfold mwB; simp only [ht]; rfl
  go_enter Tryz.func60,Tryz.ntmps60
  go_wp2_with fail
  refine (gtext_any tp false ht _ hto).mono ?_
  rintro e w1 ⟨rfl,hb⟩
  have HB := zh ((uh HB0).trans (hb.mono (uh HB0).size))
  clear hb
  go_wp2
  go_ret
  exact ⟨by rw [uh HE]; rfl,uh HB⟩
 ·have HT := zh ht
  clear ht
  have HM : Hid (mwB ⟨tp,pa,qo,re,pr⟩ = (okB pa && (decide (0 <= qo) && (decide (qo <= 2) && okP 16 pr)))) := by show _ = _; unfold mwB; simp only [uh HT]; rfl
  have HC : Hid (∀ w1 : World,Below (w.alloc (.cells #[.string tp,.string pa,.int .i64 qo,.bool re,.slice ao n cap] 52)).heap.size (w.alloc (.cells #[.string tp,.string pa,.int .i64 qo,.bool re,.slice ao n cap] 52)) w1 -> w1.cell? ⟨w.heap.size,1,none⟩ = some (.string pa) /\ w1.cell? ⟨w.heap.size,2,none⟩ = some (.int .i64 qo) /\ w1.cell? ⟨w.heap.size,4,none⟩ = some (.slice ao n cap)) := fun w1 hb => ⟨(hb.cell (by simp)).trans (by simp),(hb.cell (by simp)).trans (by simp),(hb.cell (by simp)).trans (by simp)⟩
  go_enter Tryz.func60,Tryz.ntmps60
  go_wp2_with fail
  refine (gtext_any tp true (uh HT) _ hto).mono ?_
  rintro e w1 ⟨rfl,hb⟩
  obtain ⟨c1,c2,c4⟩ := (uh HC) w1 hb
  have HB := zh ((uh HB0).trans (hb.mono (uh HB0).size))
  have HP1 := zh ((uh HP).below hb)
  clear hb HC HP
  generalize w.heap.size = B at c1 c2 c4 |-
  by_cases h1 : pa.size <= 65535
  ·by_cases h2 : 0 <= qo
   ·by_cases h3 : qo <= 2
    ·have HE : Hid (mwB ⟨tp,pa,qo,re,pr⟩ = okP 16 pr) := by show _ = _; rw [uh HM]; unfold okB; rw [decide_eq_true h1,decide_eq_true h2,decide_eq_true h3]; rfl
     go_wp2_with fail
     refine (gprops_any _ pr 16 _ (uh HP1) hmx (uh HSM)).mono ?_
     rintro e w2 ⟨rfl,hb2⟩
     have HB2 := zh ((uh HB).trans (hb2.mono (uh HB).size))
     clear hb2
     go_wp2
     go_ret
     exact ⟨by rw [uh HE]; rfl,uh HB2⟩
    ·have HE : Hid (mwB ⟨tp,pa,qo,re,pr⟩ = false) := by show _ = _; rw [uh HM,decide_eq_false h3]; simp
     go_wp2
     go_ret
     exact ⟨by rw [uh HE]; rfl,uh HB⟩
   ·have HE : Hid (mwB ⟨tp,pa,qo,re,pr⟩ = false) := by show _ = _; rw [uh HM,decide_eq_false h2]; simp
    go_wp2
    go_ret
    exact ⟨by rw [uh HE]; rfl,uh HB⟩
  ·have HE : Hid (mwB ⟨tp,pa,qo,re,pr⟩ = false) := by show _ = _; rw [uh HM]; unfold okB; rw [decide_eq_false h1]; rfl
   go_wp2
   go_ret
   exact ⟨by rw [uh HE]; rfl,uh HB⟩
def msB (s : Sb) : Bool := okT s.filter && (decide (0 <= s.qos) && (decide (s.qos <= 2) && (decide (0 <= s.handling) && decide (s.handling <= 2))))
theorem maySub_any (s : Sb) (w : World) (hto : s.filter.size <= 4611686018427387904) : Calls Tryz.prog 64 #[s.val] w fun e w' => e = .returned (.bool (msB s)) /\ Below w.heap.size w w' := by
 obtain ⟨fi,qo,nl,ap,ha⟩ := s
 have HB0 : Hid (Below w.heap.size w (w.alloc (.cells #[.string fi,.int .i64 qo,.bool nl,.bool ap,.int .i64 ha] 54))) := bal _ _
 dsimp only at hto
 cases ht : okT fi
 ·have HE : Hid (msB ⟨fi,qo,nl,ap,ha⟩ = false) := by show _ = _; unfold msB; simp only [ht]; rfl
  go_enter Tryz.func64,Tryz.ntmps64
  go_wp2_with fail
  refine (gtext_any fi false ht _ hto).mono ?_
  rintro e w1 ⟨rfl,hb⟩
  have HB := zh ((uh HB0).trans (hb.mono (uh HB0).size))
  clear hb
  go_wp2
  go_ret
  exact ⟨by rw [uh HE]; rfl,uh HB⟩
 ·have HT := zh ht
  clear ht
  have HM : Hid (msB ⟨fi,qo,nl,ap,ha⟩ = (decide (0 <= qo) && (decide (qo <= 2) && (decide (0 <= ha) && decide (ha <= 2))))) := by show _ = _; unfold msB; simp only [uh HT]; rfl
  go_enter Tryz.func64,Tryz.ntmps64
  go_wp2_with fail
  refine (gtext_any fi true (uh HT) _ hto).mono ?_
  rintro e w1 ⟨rfl,hb⟩
  have c1 : w1.cell? ⟨w.heap.size,1,none⟩ = some (.int .i64 qo) := (hb.cell (by simp)).trans (by simp)
  have c4 : w1.cell? ⟨w.heap.size,4,none⟩ = some (.int .i64 ha) := (hb.cell (by simp)).trans (by simp)
  have HB := zh ((uh HB0).trans (hb.mono (uh HB0).size))
  clear hb
  generalize w.heap.size = B at c1 c4 |-
  by_cases h2 : 0 <= qo
  ·by_cases h3 : qo <= 2
   ·by_cases h4 : 0 <= ha
    ·have HE : Hid (msB ⟨fi,qo,nl,ap,ha⟩ = decide (ha <= 2)) := by show _ = _; rw [uh HM,decide_eq_true h2,decide_eq_true h3,decide_eq_true h4]; rfl
     go_wp2
     go_ret
     exact ⟨by rw [uh HE]; rfl,uh HB⟩
    ·have HE : Hid (msB ⟨fi,qo,nl,ap,ha⟩ = false) := by show _ = _; rw [uh HM,decide_eq_false h4]; simp
     go_wp2
     go_ret
     exact ⟨by rw [uh HE]; rfl,uh HB⟩
   ·have HE : Hid (msB ⟨fi,qo,nl,ap,ha⟩ = false) := by show _ = _; rw [uh HM,decide_eq_false h3]; simp
    go_wp2
    go_ret
    exact ⟨by rw [uh HE]; rfl,uh HB⟩
  ·have HE : Hid (msB ⟨fi,qo,nl,ap,ha⟩ = false) := by show _ = _; rw [uh HM,decide_eq_false h2]; simp
   go_wp2
   go_ret
   exact ⟨by rw [uh HE]; rfl,uh HB⟩
structure MS (w0 w : World) (B X : Nat) (q x : Pkv) : Prop where
 bel : Below w0.heap.size w0 w
 lo : w0.heap.size <= B /\ w0.heap.size <= X /\ B ≠ X
 pb : Pk w B q
 px : Pk w X x
theorem MS.below {w0 w w' : World} {B X : Nat} {q x : Pkv} (h : MS w0 w B X q x) (hb : Below w.heap.size w w') : MS w0 w' B X q x := ⟨h.bel.trans (hb.mono h.bel.size),h.lo,h.pb.below hb,h.px.below hb⟩
theorem MS.set {w0 w : World} {B X : Nat} {q x : Pkv} (h : MS w0 w B X q x) (y : Pkv) (i : Nat) (hi : i < 19) (hq : ∀ j,j ≠ i -> y.cell j = x.cell j) : MS w0 (w.setCell ⟨X,i,none⟩ (y.cell i)) B X q y := by
 obtain ⟨h1,⟨h2,h3,h4⟩,h5,h6⟩ := h
 refine ⟨⟨h1.os,h1.tape,h1.output,by simpa [World.setCell] using h1.size,fun k hk => (Below.heap_setCell _ _ _ _ (by show k ≠ X; omega)).trans (h1.block k hk)⟩,⟨h2,h3,h4⟩,fun j hj => ⟨(World.cell?_setCell_other _ _ _ _ (fun e => by injection e with e _; exact h4 e.symm)).trans (h5 j hj).1,by rw [World.frozen?_setCell]; exact (h5 j hj).2⟩,h6.set y i hi hq⟩
def Pkv.wi_kind (p : Pkv) (x : Int) : Pkv := { p with kind := x }
theorem MS.wi_kind {w0 w : World} {B X : Nat} {q x : Pkv} (h : MS w0 w B X q x) (y : Int) : MS w0 (w.setCell ⟨X,0,none⟩ (.int .i64 y)) B X q (x.wi_kind y) :=
 h.set (x.wi_kind y) 0 (by omega) (fun j hj => by unfold Pkv.wi_kind Pkv.cell; split <;> first | rfl | exact absurd rfl hj)
def Pkv.wi_dup (p : Pkv) (x : Bool) : Pkv := { p with dup := x }
theorem MS.wi_dup {w0 w : World} {B X : Nat} {q x : Pkv} (h : MS w0 w B X q x) (y : Bool) : MS w0 (w.setCell ⟨X,1,none⟩ (.bool y)) B X q (x.wi_dup y) :=
 h.set (x.wi_dup y) 1 (by omega) (fun j hj => by unfold Pkv.wi_dup Pkv.cell; split <;> first | rfl | exact absurd rfl hj)
def Pkv.wi_qos (p : Pkv) (x : Int) : Pkv := { p with qos := x }
theorem MS.wi_qos {w0 w : World} {B X : Nat} {q x : Pkv} (h : MS w0 w B X q x) (y : Int) : MS w0 (w.setCell ⟨X,2,none⟩ (.int .i64 y)) B X q (x.wi_qos y) :=
 h.set (x.wi_qos y) 2 (by omega) (fun j hj => by unfold Pkv.wi_qos Pkv.cell; split <;> first | rfl | exact absurd rfl hj)
def Pkv.wi_retain (p : Pkv) (x : Bool) : Pkv := { p with retain := x }
theorem MS.wi_retain {w0 w : World} {B X : Nat} {q x : Pkv} (h : MS w0 w B X q x) (y : Bool) : MS w0 (w.setCell ⟨X,3,none⟩ (.bool y)) B X q (x.wi_retain y) :=
 h.set (x.wi_retain y) 3 (by omega) (fun j hj => by unfold Pkv.wi_retain Pkv.cell; split <;> first | rfl | exact absurd rfl hj)
def Pkv.wi_topic (p : Pkv) (x : ByteArray) : Pkv := { p with topic := x }
theorem MS.wi_topic {w0 w : World} {B X : Nat} {q x : Pkv} (h : MS w0 w B X q x) (y : ByteArray) : MS w0 (w.setCell ⟨X,4,none⟩ (.string y)) B X q (x.wi_topic y) :=
 h.set (x.wi_topic y) 4 (by omega) (fun j hj => by unfold Pkv.wi_topic Pkv.cell; split <;> first | rfl | exact absurd rfl hj)
def Pkv.wi_id (p : Pkv) (x : Int) : Pkv := { p with id := x }
theorem MS.wi_id {w0 w : World} {B X : Nat} {q x : Pkv} (h : MS w0 w B X q x) (y : Int) : MS w0 (w.setCell ⟨X,5,none⟩ (.int .i64 y)) B X q (x.wi_id y) :=
 h.set (x.wi_id y) 5 (by omega) (fun j hj => by unfold Pkv.wi_id Pkv.cell; split <;> first | rfl | exact absurd rfl hj)
def Pkv.wi_payload (p : Pkv) (x : ByteArray) : Pkv := { p with payload := x }
theorem MS.wi_payload {w0 w : World} {B X : Nat} {q x : Pkv} (h : MS w0 w B X q x) (y : ByteArray) : MS w0 (w.setCell ⟨X,6,none⟩ (.string y)) B X q (x.wi_payload y) :=
 h.set (x.wi_payload y) 6 (by omega) (fun j hj => by unfold Pkv.wi_payload Pkv.cell; split <;> first | rfl | exact absurd rfl hj)
def Pkv.wi_props (p : Pkv) (x : Sl) : Pkv := { p with props := x }
theorem MS.wi_props {w0 w : World} {B X : Nat} {q x : Pkv} (h : MS w0 w B X q x) (y : Sl) : MS w0 (w.setCell ⟨X,7,none⟩ (y.val)) B X q (x.wi_props y) :=
 h.set (x.wi_props y) 7 (by omega) (fun j hj => by unfold Pkv.wi_props Pkv.cell; split <;> first | rfl | exact absurd rfl hj)
def Pkv.wi_client (p : Pkv) (x : ByteArray) : Pkv := { p with client := x }
theorem MS.wi_client {w0 w : World} {B X : Nat} {q x : Pkv} (h : MS w0 w B X q x) (y : ByteArray) : MS w0 (w.setCell ⟨X,8,none⟩ (.string y)) B X q (x.wi_client y) :=
 h.set (x.wi_client y) 8 (by omega) (fun j hj => by unfold Pkv.wi_client Pkv.cell; split <;> first | rfl | exact absurd rfl hj)
def Pkv.wi_clean (p : Pkv) (x : Bool) : Pkv := { p with clean := x }
theorem MS.wi_clean {w0 w : World} {B X : Nat} {q x : Pkv} (h : MS w0 w B X q x) (y : Bool) : MS w0 (w.setCell ⟨X,9,none⟩ (.bool y)) B X q (x.wi_clean y) :=
 h.set (x.wi_clean y) 9 (by omega) (fun j hj => by unfold Pkv.wi_clean Pkv.cell; split <;> first | rfl | exact absurd rfl hj)
def Pkv.wi_keep (p : Pkv) (x : Int) : Pkv := { p with keep := x }
theorem MS.wi_keep {w0 w : World} {B X : Nat} {q x : Pkv} (h : MS w0 w B X q x) (y : Int) : MS w0 (w.setCell ⟨X,10,none⟩ (.int .i64 y)) B X q (x.wi_keep y) :=
 h.set (x.wi_keep y) 10 (by omega) (fun j hj => by unfold Pkv.wi_keep Pkv.cell; split <;> first | rfl | exact absurd rfl hj)
def Pkv.wi_wills (p : Pkv) (x : Sl) : Pkv := { p with wills := x }
theorem MS.wi_wills {w0 w : World} {B X : Nat} {q x : Pkv} (h : MS w0 w B X q x) (y : Sl) : MS w0 (w.setCell ⟨X,11,none⟩ (y.val)) B X q (x.wi_wills y) :=
 h.set (x.wi_wills y) 11 (by omega) (fun j hj => by unfold Pkv.wi_wills Pkv.cell; split <;> first | rfl | exact absurd rfl hj)
def Pkv.wi_user (p : Pkv) (x : Sl) : Pkv := { p with user := x }
theorem MS.wi_user {w0 w : World} {B X : Nat} {q x : Pkv} (h : MS w0 w B X q x) (y : Sl) : MS w0 (w.setCell ⟨X,12,none⟩ (y.val)) B X q (x.wi_user y) :=
 h.set (x.wi_user y) 12 (by omega) (fun j hj => by unfold Pkv.wi_user Pkv.cell; split <;> first | rfl | exact absurd rfl hj)
def Pkv.wi_pass (p : Pkv) (x : Sl) : Pkv := { p with pass := x }
theorem MS.wi_pass {w0 w : World} {B X : Nat} {q x : Pkv} (h : MS w0 w B X q x) (y : Sl) : MS w0 (w.setCell ⟨X,13,none⟩ (y.val)) B X q (x.wi_pass y) :=
 h.set (x.wi_pass y) 13 (by omega) (fun j hj => by unfold Pkv.wi_pass Pkv.cell; split <;> first | rfl | exact absurd rfl hj)
def Pkv.wi_code (p : Pkv) (x : Int) : Pkv := { p with code := x }
theorem MS.wi_code {w0 w : World} {B X : Nat} {q x : Pkv} (h : MS w0 w B X q x) (y : Int) : MS w0 (w.setCell ⟨X,14,none⟩ (.int .i64 y)) B X q (x.wi_code y) :=
 h.set (x.wi_code y) 14 (by omega) (fun j hj => by unfold Pkv.wi_code Pkv.cell; split <;> first | rfl | exact absurd rfl hj)
def Pkv.wi_session (p : Pkv) (x : Bool) : Pkv := { p with session := x }
theorem MS.wi_session {w0 w : World} {B X : Nat} {q x : Pkv} (h : MS w0 w B X q x) (y : Bool) : MS w0 (w.setCell ⟨X,15,none⟩ (.bool y)) B X q (x.wi_session y) :=
 h.set (x.wi_session y) 15 (by omega) (fun j hj => by unfold Pkv.wi_session Pkv.cell; split <;> first | rfl | exact absurd rfl hj)
def Pkv.wi_subs (p : Pkv) (x : Sl) : Pkv := { p with subs := x }
theorem MS.wi_subs {w0 w : World} {B X : Nat} {q x : Pkv} (h : MS w0 w B X q x) (y : Sl) : MS w0 (w.setCell ⟨X,16,none⟩ (y.val)) B X q (x.wi_subs y) :=
 h.set (x.wi_subs y) 16 (by omega) (fun j hj => by unfold Pkv.wi_subs Pkv.cell; split <;> first | rfl | exact absurd rfl hj)
def Pkv.wi_filters (p : Pkv) (x : Sl) : Pkv := { p with filters := x }
theorem MS.wi_filters {w0 w : World} {B X : Nat} {q x : Pkv} (h : MS w0 w B X q x) (y : Sl) : MS w0 (w.setCell ⟨X,17,none⟩ (y.val)) B X q (x.wi_filters y) :=
 h.set (x.wi_filters y) 17 (by omega) (fun j hj => by unfold Pkv.wi_filters Pkv.cell; split <;> first | rfl | exact absurd rfl hj)
def Pkv.wi_codes (p : Pkv) (x : Sl) : Pkv := { p with codes := x }
theorem MS.wi_codes {w0 w : World} {B X : Nat} {q x : Pkv} (h : MS w0 w B X q x) (y : Sl) : MS w0 (w.setCell ⟨X,18,none⟩ (y.val)) B X q (x.wi_codes y) :=
 h.set (x.wi_codes y) 18 (by omega) (fun j hj => by unfold Pkv.wi_codes Pkv.cell; split <;> first | rfl | exact absurd rfl hj)
theorem mpacket_alloc (ρ : Operand -> Value) (dst : Option Tmp) (ty : TypeId) (pos : String) (after : Array Edge) (w : World) :
  (execOp ρ ⟨dst,.alloc 30,ty,pos,after,none⟩).run Tryz.prog w = .ok (.value (.pointer (some ⟨w.heap.size,0,none⟩))) (w.alloc (.cells pkz.cells.toArray 30)) := by
 kernel_rfl
theorem mpacket_store (a : Act) (dst : Option Tmp) (x y : Operand) (ty : TypeId) (pos : String) (after : Array Edge) (q : Pkv) (w : World) (hx : a.eval x = .pointer (some ⟨w.heap.size,0,none⟩)) (hy : a.eval y = q.val) :
  (execOp a.eval ⟨dst,.store 30 x y,ty,pos,after,none⟩).run Tryz.prog (w.alloc (.cells pkz.cells.toArray 30)) = .ok .skip (w.alloc (.cells q.cells.toArray 30)) := by
 show Sem.run Tryz.prog (do Instr.storeAt 30 (a.eval x) (a.eval y); pure Next.skip) _ = _
 rw [hx,hy,show q.val = .agg q.cells.toArray from rfl]
 simp only [Sem.run_bind]
 rw [run_storeAt_new w 30 pkz.cells.toArray q.cells.toArray (by rw [packet_size]; rfl) rfl (Pkv.ones' q)]
 rfl
theorem mpList_wanted {P : Program} {ops : Array Oper} {Q : Exit -> Act -> World -> Prop} {a : Act} {w : World} {rest : List Oper} {o : Oper} (hw : Region.wanted o (yielded ops a.tmps) = true) (h : ∀ K : Act -> World -> Prop,(∀ a w,wpList P ops Q rest a w -> K a w) -> o.wp P a w K Q) : wpList P ops Q (o :: rest) a w :=
 wpList_step fun K hK => by rw [if_pos hw]; exact h K hK
def xk (q : Pkv) : Pkv := (pkz.wi_kind q.kind).wi_props q.props
theorem packet_build2 (a : Act) (dst : Option Tmp) (x y : Operand) (ty : TypeId) (pos : String) (after : Array Edge) (q : Pkv) (hx : a.eval x = .int .i64 q.kind) (hy : a.eval y = q.props.val) (w : World) :
  (execOp a.eval ⟨dst,.build 30 #[(0,x),(7,y)],ty,pos,after,none⟩).run Tryz.prog w = .ok (.value (xk q).val) w := by
 unfold execOp
 simp only [List.map_toArray,List.map_cons,List.map_nil,hx,hy]
 kernel_rfl
theorem ms_new (w : World) (q : Pkv) : MS w ((w.alloc (.cells q.cells.toArray 30)).alloc (.cells (xk q).cells.toArray 30)) w.heap.size (w.heap.size + 1) q (xk q) := by
 have hb : Below w.heap.size w (w.alloc (.cells q.cells.toArray 30)) := bal _ _
 have hb2 : Below (w.alloc (.cells q.cells.toArray 30)).heap.size (w.alloc (.cells q.cells.toArray 30)) ((w.alloc (.cells q.cells.toArray 30)).alloc (.cells (xk q).cells.toArray 30)) := bal _ _
 refine ⟨hb.trans (hb2.mono hb.size),⟨Nat.le_refl _,Nat.le_succ _,by omega⟩,(pk_new w q).below hb2,?_⟩
 have k := pk_new (w.alloc (.cells q.cells.toArray 30)) (xk q)
 rw [show (w.alloc (.cells q.cells.toArray 30)).heap.size = w.heap.size + 1 from by simp] at k
 exact k
theorem gflag_any (b : Bool) (n : Int) (w : World) : Calls Tryz.prog 67 #[.bool b,.int .i64 n] w fun e w' => e = .returned (.int .i64 (fv b n)) /\ w' = w := by
 unfold fv
 cases b
 ·go_enter Tryz.func67,Tryz.ntmps67
  go_wp2
  go_ret
  exact ⟨rfl,rfl⟩
 ·go_enter Tryz.func67,Tryz.ntmps67
  go_wp2
  go_ret
  exact ⟨rfl,rfl⟩
def Rwb (w : World) (B : Nat) (v : Value) (l : List Int) : Prop := w.ownsRow B 5 1 v l.length (l.map (Value.int .u8)) /\ ∀ j,0 <= l.getD j 0 /\ l.getD j 0 <= 255
theorem Rwb.byt {w : World} {B : Nat} {v : Value} {l : List Int} (h : Rwb w B v l) : Byt w v l := byt_of_owns h.1 h.2
theorem Rwb.below {w w' : World} {B : Nat} {v : Value} {l : List Int} (h : Rwb w B v l) (hb : Below w.heap.size w w') : Rwb w' B v l := ⟨owns_below h.1 hb,h.2⟩
theorem Rwb.mono {w : World} {B B' : Nat} {v : Value} {l : List Int} (h : Rwb w B v l) (hB : B' <= B) : Rwb w B' v l := ⟨owns_mono h.1 hB,h.2⟩
theorem Rwb.form {w : World} {B : Nat} {v : Value} {l : List Int} (h : Rwb w B v l) : ∃ a n c,v = .slice a n c := by
 rcases h.1.2 with ⟨rfl,_⟩ | ⟨g,cap,cur,rfl,_⟩
 ·exact ⟨_,_,_,rfl⟩
 ·exact ⟨_,_,_,rfl⟩
theorem rwb_new (w : World) (l : List Int) (hl : 1 <= l.length) (hm : l.length <= 100) (hr : ∀ j,0 <= l.getD j 0 /\ l.getD j 0 <= 255) : Rwb (w.alloc (.cells (l.map (Value.int .u8)).toArray 5)) w.heap.size (.slice (some ⟨w.heap.size,0,none⟩) l.length l.length) l :=
 ⟨⟨by simp,.inr ⟨w.heap.size,l.length,_,rfl,Nat.le_refl _,heap_alloc_new _ _,Nat.le_refl _,by unfold maxLen; omega,by simp,by rw [List.toList_toArray,Nat.mul_one]; exact List.take_of_length_le (by simp)⟩⟩,hr⟩
theorem gtwo_any (n : Int) (w : World) : Calls Tryz.prog 70 #[.int .i64 n] w fun e w' => ∃ v,e = .returned v /\ Hid (Rwb w' w.heap.size v (b2 n)) /\ Below w.heap.size w w' := by
 have HR : Hid (Rwb (w.alloc (.cells #[.int .u8 (n / 256 % 256),.int .u8 (n % 256)] 5)) w.heap.size (.slice (some ⟨w.heap.size,0,none⟩) 2 2) (b2 n)) := rwb_new w (b2 n) (by simp) (by simp) (rng2 (by omega) (by omega))
 have HB : Hid (Below w.heap.size w (w.alloc (.cells #[.int .u8 (n / 256 % 256),.int .u8 (n % 256)] 5))) := bal _ _
 go_enter Tryz.func70,Tryz.ntmps70
 go_wp2
 go_ret
 exact ⟨_,rfl,HR,uh HB⟩
def gtl (code : Int) (l : List Pr) : List Int := if 0 < l.length then [code % 256] ++ pbs l else if code = 0 then [] else [code % 256]
def GPut (l : List Int) (w : World) (e : Ending) (w' : World) : Prop := ∃ v,e = .returned v /\ Hid (Rwb w' w.heap.size v l) /\ Below w.heap.size w w'
theorem Rwb.nil (w : World) (B : Nat) : Rwb w B (.slice none 0 0) [] := ⟨World.ownsRow_nil _ _ _ _,fun j => by simp⟩
theorem bnx2 {B : Nat} {w a b : World} (h : Below B w a) (h2 : Below a.heap.size a b) (hB : B <= a.heap.size := by first | exact Nat.le_refl _ | (exact (Below.size ‹_›)) | omega) : Below B w b := h.trans (h2.mono hB)
theorem gtail_any (q : Pkv) (l : List Pr) (place : Int) (w : World) (hP : Prp w q.props.val l) (hok : okP place l = true) : Calls Tryz.prog 71 #[q.val] w (GPut (gtl q.code l) w) := by
 obtain ⟨hok1,h32⟩ := chkP0 (of_decide_eq_true hok)
 have hple := pbs_le (of_decide_eq_true hok)
 have HPN := zh (pk_new w q)
 have HB0 : Hid (Below w.heap.size w (w.alloc (.cells q.cells.toArray 30))) := bal _ _
 have HBY : Hid (∀ W,Below w.heap.size w W -> Calls Tryz.prog 68 #[.slice q.props.ao l.length q.props.cap] W (PutP (pbs l) W)) := fun W hW => by
  have k := rbytes_any q.props.val l place W (hP.below hW) (by omega) hok1
  rw [show q.props.val = .slice q.props.ao q.props.n q.props.cap from rfl,prp_n hP] at k
  exact k
 have HQN := zh (prp_n hP)
 clear hP hok hok1
 go_enter Tryz.func71,Tryz.ntmps71
 go_upto_region 1 with fail
 change Code.wp _ _ _ _ (w.alloc (.cells q.cells.toArray 30))
 have hsz : (w.alloc (.cells q.cells.toArray 30)).heap.size = w.heap.size + 1 := by simp
 generalize w.alloc (.cells q.cells.toArray 30) = wa at HPN HB0 hsz |-
 have b7 := (uh HPN).props
 rw [show q.props.val = .slice q.props.ao q.props.n q.props.cap from rfl,uh HQN] at b7
 have b14 := (uh HPN).code
 by_cases hl : 0 < l.length
 ·have HE : Hid (gtl q.code l = [q.code % 256] ++ pbs l) := by show _ = _; unfold gtl; rw [if_pos hl]
  have HS : Hid (∀ W,Below wa.heap.size wa W -> W.cell? ⟨w.heap.size,7,none⟩ = some (.slice q.props.ao l.length q.props.cap) /\ W.cell? ⟨w.heap.size,14,none⟩ = some (.int .i64 q.code)) := fun W hW => ⟨(hW.cell (cell_lt b7)).trans b7,(hW.cell (cell_lt b14)).trans b14⟩
  go_wp2_with fail
  refine wp_region_noPanic ?_
  refine wp_region_held_drew (S := (fun w' => w'.cell? ⟨w.heap.size,7,none⟩ = some (.slice q.props.ao l.length q.props.cap) /\ w'.cell? ⟨w.heap.size,14,none⟩ = some (.int .i64 q.code))) (by kernel_rfl) ((uh HS) _ (below_drewN (Below.refl _ _) 1)) (fun hHeld => ?_)
  have HBd : Hid (Below wa.heap.size wa wa.drew) := below_drewN (Below.refl _ _) 1
  have hszd : wa.drew.heap.size = w.heap.size + 1 := hsz
  generalize wa.drew = wd at HBd hHeld hszd |-
  have hz : IntKind.u8.wrap q.code = q.code % 256 := by rfl
  have HRNG : ∀ j,0 <= ([q.code % 256] : List Int).getD j 0 /\ ([q.code % 256] : List Int).getD j 0 <= 255 := rng1 (by omega)
  generalize q.code % 256 = z at hz HE HRNG
  clear b7 b14
  refine rtk 0 (h := ?_)
  refine rtk 1 (h := ?_)
  refine rtk 2 (h := ?_)
  refine rtk 4 (h := ?_)
  refine rtk 5 (h := ?_)
  refine wpAnyH_ready (rs := [3,6]) (by kernel_rfl) (by simp) ?_
  refine rac (h := fun K hK => ?_) (hs := rac (h := fun K hK => ?_) (hs := AllReadyH.nil))
  ·go_simp
   have HBx : Hid (Below wa.heap.size wa (wd.alloc (.cells #[.int .u8 z] 5))) := (uh HBd).alloc (uh HBd).size _
   have HRx : Hid (Rwb (wd.alloc (.cells #[.int .u8 z] 5)) (w.heap.size + 1) (.slice (some ⟨w.heap.size + 1,0,none⟩) 1 1) [z]) := by
    have k := rwb_new wd [z] (by simp) (by simp) HRNG
    rw [hszd] at k
    exact k
   refine hK.out _ _ ((uh HS) _ (uh HBx)) (fun hHeld => ?_)
   clear hK K
   generalize wd.alloc (.cells #[.int .u8 z] 5) = w1 at HBx HRx hHeld |-
   refine rcl 6 (h := fun K hK => ?_)
   go_simp
   refine ((uh HBY) _ (bnx2 (uh HB0) (uh HBx))).mono ?_
   rintro e w2 ⟨vb,rfl,hy2,hb2⟩
   have HB2 : Hid (Below wa.heap.size wa w2) := bnx2 (uh HBx) hb2
   have HR2 := zh ((uh HRx).below hb2)
   have HY2 := hy2
   clear hb2 hy2 HBx HRx
   refine hK.out _ _ ((uh HS) _ (uh HB2)) (fun hHeld => ?_)
   clear hK K
   refine rcl 7 (h := fun K hK => ?_)
   refine step_append_byt rfl _ _ rfl (w.heap.size + 1) (.slice (some ⟨w.heap.size + 1,0,none⟩) 1 1) 1 [z] rfl (uh HR2).1 vb (pbs l) rfl (uh HY2) (by first | omega | (simp; omega)) (by have := (uh HB2).size; omega) ?_
   intro v3 w3 hown3 hg3
   have HB3 : Hid (Below wa.heap.size wa w3) := (uh HB2).grown hg3 (uh HB2).size (fun g hg => by have := owns_blk (uh HR2).1 g hg; omega)
   have HR3 : Hid (Rwb w3 (w.heap.size + 1) v3 ([z] ++ (pbs l))) := ⟨by rw [List.length_append]; exact hown3,range_app (uh HR2).2 (uh HY2).range⟩
   clear hown3 hg3
   refine hK.out _ _ ((uh HS) _ (uh HB3)) (fun hHeld => ?_)
   clear hK K
   simp only [Act.put,List.setIfInBounds_toArray,List.set_cons_zero,List.set_cons_succ]
   refine rtk 8 (h := ?_)
   refine wpAnyH_done (by kernel_rfl) ?_ _
   refine NoPanic.normal ?_
   go_wp2
   go_ret
   exact ⟨_,rfl,by rw [uh HE]; exact (uh HR3).mono (by omega),(uh HB0).trans ((uh HB3).mono (uh HB0).size)⟩
  ·go_simp
   refine ((uh HBY) _ (bnx2 (uh HB0) (uh HBd))).mono ?_
   rintro e w1 ⟨vb,rfl,hy1,hb1⟩
   have HB1 : Hid (Below wa.heap.size wa w1) := bnx2 (uh HBd) hb1
   refine hK.out _ _ ((uh HS) _ (uh HB1)) (fun hHeld => ?_)
   clear hK K
   refine rcl 3 (h := fun K hK => ?_)
   go_simp
   have HB2 : Hid (Below wa.heap.size wa (w1.alloc (.cells #[.int .u8 z] 5))) := (uh HB1).alloc (uh HB1).size _
   have hz1 := (uh HB1).size
   have HR2 : Hid (Rwb (w1.alloc (.cells #[.int .u8 z] 5)) (w.heap.size + 1) (.slice (some ⟨w1.heap.size,0,none⟩) 1 1) [z]) := (rwb_new w1 [z] (by simp) (by simp) HRNG).mono (by omega)
   have HY2 := zh ((uh hy1).below ((Below.refl _ _).alloc (Nat.le_refl _) (.cells #[.int .u8 z] 5)))
   refine hK.out _ _ ((uh HS) _ (uh HB2)) (fun hHeld => ?_)
   clear hK K hb1 hy1
   generalize w1.alloc (.cells #[.int .u8 z] 5) = w2 at HB2 HR2 HY2 hHeld |-
   refine rcl 7 (h := fun K hK => ?_)
   refine step_append_byt rfl _ _ rfl (w.heap.size + 1) (.slice (some ⟨w1.heap.size,0,none⟩) 1 1) 1 [z] rfl (uh HR2).1 vb (pbs l) rfl (uh HY2) (by first | omega | (simp; omega)) (by have := (uh HB2).size; omega) ?_
   intro v3 w3 hown3 hg3
   have HB3 : Hid (Below wa.heap.size wa w3) := (uh HB2).grown hg3 (uh HB2).size (fun g hg => by have := owns_blk (uh HR2).1 g hg; omega)
   have HR3 : Hid (Rwb w3 (w.heap.size + 1) v3 ([z] ++ (pbs l))) := ⟨by rw [List.length_append]; exact hown3,range_app (uh HR2).2 (uh HY2).range⟩
   clear hown3 hg3
   refine hK.out _ _ ((uh HS) _ (uh HB3)) (fun hHeld => ?_)
   clear hK K
   simp only [Act.put,List.setIfInBounds_toArray,List.set_cons_zero,List.set_cons_succ]
   refine rtk 8 (h := ?_)
   refine wpAnyH_done (by kernel_rfl) ?_ _
   refine NoPanic.normal ?_
   go_wp2
   go_ret
   exact ⟨_,rfl,by rw [uh HE]; exact (uh HR3).mono (by omega),(uh HB0).trans ((uh HB3).mono (uh HB0).size)⟩
 ·have h0 : l.length = 0 := by omega
  rw [h0] at b7
  by_cases hc : q.code = 0
  ·have HE : Hid (gtl q.code l = []) := by show _ = _; unfold gtl; rw [if_neg hl,if_pos hc]
   rw [hc] at b14
   clear hl hc h0
   go_wp2
   go_ret
   exact ⟨_,rfl,by rw [uh HE]; exact Rwb.nil _ _,uh HB0⟩
  ·have HE : Hid (gtl q.code l = [q.code % 256]) := by show _ = _; unfold gtl; rw [if_neg hl,if_neg hc]
   have hcb : (q.code != 0) = true := by simpa using hc
   have HRx : Hid (Rwb (wa.alloc (.cells #[.int .u8 (q.code % 256)] 5)) (w.heap.size + 1) (.slice (some ⟨w.heap.size + 1,0,none⟩) 1 1) [q.code % 256]) := by
    have k := rwb_new wa [q.code % 256] (by simp) (by simp) (rng1 (by omega))
    rw [hsz] at k
    exact k
   have HBx : Hid (Below w.heap.size w (wa.alloc (.cells #[.int .u8 (q.code % 256)] 5))) := (uh HB0).alloc (uh HB0).size _
   clear hl hc h0
   go_wp2
   go_ret
   exact ⟨_,rfl,by rw [uh HE]; exact (uh HRx).mono (Nat.le_succ _),uh HBx⟩
theorem gb_ping (q : Pkv) (l : List Pr) (w : World) (hP : Prp w q.props.val l) (hok : okP q.kind l = true) (hk : q.kind = 12 \/ q.kind = 13) : Calls Tryz.prog 28 #[q.val] w (GPut ([]) w) := by
 obtain ⟨hok1,h32⟩ := chkP0 (of_decide_eq_true hok)
 have hple := pbs_le (of_decide_eq_true hok)
 have HPN := zh (pk_new w q)
 have HB0 : Hid (Below w.heap.size w (w.alloc (.cells q.cells.toArray 30))) := bal _ _
 have HBY : Hid (∀ W,Below w.heap.size w W -> Calls Tryz.prog 68 #[.slice q.props.ao l.length q.props.cap] W (PutP (pbs l) W)) := fun W hW => by
  have k := rbytes_any q.props.val l q.kind W (hP.below hW) (by omega) hok1
  rw [show q.props.val = .slice q.props.ao q.props.n q.props.cap from rfl,prp_n hP] at k
  exact k
 have HTL : Hid (∀ W,Below w.heap.size w W -> Calls Tryz.prog 71 #[.agg q.cells.toArray] W (GPut (gtl q.code l) W)) := fun W hW => gtail_any q l q.kind W (hP.below hW) hok
 have HQN := zh (prp_n hP)
 have HKK := zh hk
 clear hP hok hok1 hk
 go_enter Tryz.func28,Tryz.ntmps28
 go_upto_region 1 with fail
 change Code.wp _ _ _ _ (w.alloc (.cells q.cells.toArray 30))
 have hsz : (w.alloc (.cells q.cells.toArray 30)).heap.size = w.heap.size + 1 := by simp
 generalize w.alloc (.cells q.cells.toArray 30) = wa at HPN HB0 hsz |-
 have b0 := (uh HPN).kind
 rcases uh HKK with hk | hk <;> rw [hk] at b0 <;> clear hk
 all_goals (
  go_wp2
  go_ret
  exact ⟨_,rfl,Rwb.nil _ _,uh HB0⟩)
theorem gb_reason (q : Pkv) (l : List Pr) (w : World) (hP : Prp w q.props.val l) (hok : okP q.kind l = true) (hk : q.kind = 14 \/ q.kind = 15) : Calls Tryz.prog 28 #[q.val] w (GPut (gtl q.code l) w) := by
 obtain ⟨hok1,h32⟩ := chkP0 (of_decide_eq_true hok)
 have hple := pbs_le (of_decide_eq_true hok)
 have HPN := zh (pk_new w q)
 have HB0 : Hid (Below w.heap.size w (w.alloc (.cells q.cells.toArray 30))) := bal _ _
 have HBY : Hid (∀ W,Below w.heap.size w W -> Calls Tryz.prog 68 #[.slice q.props.ao l.length q.props.cap] W (PutP (pbs l) W)) := fun W hW => by
  have k := rbytes_any q.props.val l q.kind W (hP.below hW) (by omega) hok1
  rw [show q.props.val = .slice q.props.ao q.props.n q.props.cap from rfl,prp_n hP] at k
  exact k
 have HTL : Hid (∀ W,Below w.heap.size w W -> Calls Tryz.prog 71 #[.agg q.cells.toArray] W (GPut (gtl q.code l) W)) := fun W hW => gtail_any q l q.kind W (hP.below hW) hok
 have HQN := zh (prp_n hP)
 have HKK := zh hk
 clear hP hok hok1 hk
 go_enter Tryz.func28,Tryz.ntmps28
 go_upto_region 1 with fail
 change Code.wp _ _ _ _ (w.alloc (.cells q.cells.toArray 30))
 have hsz : (w.alloc (.cells q.cells.toArray 30)).heap.size = w.heap.size + 1 := by simp
 generalize w.alloc (.cells q.cells.toArray 30) = wa at HPN HB0 hsz |-
 have b0 := (uh HPN).kind
 rcases uh HKK with hk | hk <;> rw [hk] at b0 <;> clear hk
 all_goals (
  go_upto_region 23 with fail
  go_step
  refine wpList_load_mid rfl 30 _ rfl w.heap.size 0 rfl q.cells _ (uh HPN).range Tryz.underlying30 rfl packet_size ?_
  simp only [Act.put,List.setIfInBounds_toArray,List.set_cons_zero,List.set_cons_succ]
  go_wp2_with fail
  refine ((uh HTL) _ (uh HB0)).mono ?_
  rintro e w1 ⟨v,rfl,hr,hb⟩
  have HR := zh ((uh hr).mono (uh HB0).size)
  have HB := zh (bnx2 (uh HB0) hb)
  obtain ⟨va,vn,vc,rfl⟩ := (uh hr).form
  clear hr hb
  go_wp2
  go_ret
  exact ⟨_,rfl,HR,uh HB⟩)
theorem gb_ack (q : Pkv) (l : List Pr) (w : World) (hP : Prp w q.props.val l) (hok : okP q.kind l = true) (hk : q.kind = 4 \/ q.kind = 5 \/ q.kind = 6 \/ q.kind = 7) : Calls Tryz.prog 28 #[q.val] w (GPut (b2 q.id ++ gtl q.code l) w) := by
 obtain ⟨hok1,h32⟩ := chkP0 (of_decide_eq_true hok)
 have hple := pbs_le (of_decide_eq_true hok)
 have HPN := zh (pk_new w q)
 have HB0 : Hid (Below w.heap.size w (w.alloc (.cells q.cells.toArray 30))) := bal _ _
 have HBY : Hid (∀ W,Below w.heap.size w W -> Calls Tryz.prog 68 #[.slice q.props.ao l.length q.props.cap] W (PutP (pbs l) W)) := fun W hW => by
  have k := rbytes_any q.props.val l q.kind W (hP.below hW) (by omega) hok1
  rw [show q.props.val = .slice q.props.ao q.props.n q.props.cap from rfl,prp_n hP] at k
  exact k
 have HTL : Hid (∀ W,Below w.heap.size w W -> Calls Tryz.prog 71 #[.agg q.cells.toArray] W (GPut (gtl q.code l) W)) := fun W hW => gtail_any q l q.kind W (hP.below hW) hok
 have HQN := zh (prp_n hP)
 have HKK := zh hk
 clear hP hok hok1 hk
 go_enter Tryz.func28,Tryz.ntmps28
 go_upto_region 1 with fail
 change Code.wp _ _ _ _ (w.alloc (.cells q.cells.toArray 30))
 have hsz : (w.alloc (.cells q.cells.toArray 30)).heap.size = w.heap.size + 1 := by simp
 generalize w.alloc (.cells q.cells.toArray 30) = wa at HPN HB0 hsz |-
 have b0 := (uh HPN).kind
 rcases uh HKK with hk | hk | hk | hk <;> rw [hk] at b0 <;> clear hk
 all_goals (
  go_wp2_with fail
  have HS : Hid (∀ W,Below wa.heap.size wa W -> W.cell? ⟨w.heap.size,5,none⟩ = some (.int .i64 q.id) /\ W.rangeAt w.heap.size 0 q.cells) := fun W hW => ⟨((uh HPN).below hW).id,((uh HPN).below hW).range⟩
  refine wp_region_noPanic ?_
  refine wp_region_held_drew (S := (fun w' => w'.cell? ⟨w.heap.size,5,none⟩ = some (.int .i64 q.id) /\ w'.rangeAt w.heap.size 0 q.cells)) (by kernel_rfl) ((uh HS) _ (below_drewN (Below.refl _ _) 1)) (fun hHeld => ?_)
  have HBd : Hid (Below wa.heap.size wa wa.drew) := below_drewN (Below.refl _ _) 1
  have hszd : wa.drew.heap.size = w.heap.size + 1 := hsz
  generalize wa.drew = wd at HBd hHeld hszd |-
  clear b0
  refine rtk 0 (h := ?_)
  refine rtk 1 (h := ?_)
  refine rtk 3 (v := .agg q.cells.toArray) (hy := yieldsIf_load_mid (by rfl) 30 _ rfl w.heap.size 0 rfl q.cells _ (fun _ h => h.2) Tryz.underlying30 rfl packet_size) (h := ?_)
  refine rcl 2 (h := fun K hK => ?_)
  go_simp
  refine (gtwo_any q.id _).mono ?_
  rintro e w1 ⟨v1,rfl,hr1,hb1⟩
  have HB1 : Hid (Below wa.heap.size wa w1) := bnx2 (uh HBd) hb1
  have HR1 : Hid (Rwb w1 (w.heap.size + 1) v1 (b2 q.id)) := (uh hr1).mono (by omega)
  clear hr1 hb1
  refine hK.out _ _ ((uh HS) _ (uh HB1)) (fun hHeld => ?_)
  clear hK K
  refine rcl 4 (h := fun K hK => ?_)
  go_simp
  refine ((uh HTL) _ (bnx2 (uh HB0) (uh HB1))).mono ?_
  rintro e w2 ⟨v2,rfl,hr2,hb2⟩
  have HB2 : Hid (Below wa.heap.size wa w2) := bnx2 (uh HB1) hb2
  have HR2 := zh ((uh HR1).below hb2)
  have HY2 := zh (uh hr2).byt
  clear hr2 hb2
  refine hK.out _ _ ((uh HS) _ (uh HB2)) (fun hHeld => ?_)
  clear hK K
  have hgl : (gtl q.code l).length <= 5000001 := by unfold gtl; split; (· simp; omega); (· split <;> simp)
  refine rcl 5 (h := fun K hK => ?_)
  refine step_append_byt rfl _ _ rfl (w.heap.size + 1) v1 2 (b2 q.id) rfl (uh HR2).1 v2 (gtl q.code l) rfl (uh HY2) (by omega) (by have := (uh HB2).size; omega) ?_
  intro v3 w3 hown3 hg3
  have HB3 : Hid (Below wa.heap.size wa w3) := (uh HB2).grown hg3 (uh HB2).size (fun g hg => by have := owns_blk (uh HR2).1 g hg; omega)
  have HR3 : Hid (Rwb w3 (w.heap.size + 1) v3 (b2 q.id ++ gtl q.code l)) := ⟨by rw [List.length_append]; exact hown3,range_app (uh HR2).2 (uh HY2).range⟩
  clear hown3 hg3
  refine hK.out _ _ ((uh HS) _ (uh HB3)) (fun hHeld => ?_)
  clear hK K
  simp only [Act.put,List.setIfInBounds_toArray,List.set_cons_zero,List.set_cons_succ]
  refine rtk 6 (h := ?_)
  refine wpAnyH_done (by kernel_rfl) ?_ _
  refine NoPanic.normal ?_
  go_wp2
  go_ret
  exact ⟨_,rfl,(uh HR3).mono (Nat.le_succ _),bnx2 (uh HB0) (uh HB3)⟩)
theorem gb_connack (q : Pkv) (l : List Pr) (w : World) (hP : Prp w q.props.val l) (hok : okP q.kind l = true) (hk : q.kind = 2) : Calls Tryz.prog 28 #[q.val] w (GPut ([fv q.session 1 % 256,q.code % 256] ++ pbs l) w) := by
 obtain ⟨hok1,h32⟩ := chkP0 (of_decide_eq_true hok)
 have hple := pbs_le (of_decide_eq_true hok)
 have HPN := zh (pk_new w q)
 have HB0 : Hid (Below w.heap.size w (w.alloc (.cells q.cells.toArray 30))) := bal _ _
 have HBY : Hid (∀ W,Below w.heap.size w W -> Calls Tryz.prog 68 #[.slice q.props.ao l.length q.props.cap] W (PutP (pbs l) W)) := fun W hW => by
  have k := rbytes_any q.props.val l q.kind W (hP.below hW) (by omega) hok1
  rw [show q.props.val = .slice q.props.ao q.props.n q.props.cap from rfl,prp_n hP] at k
  exact k
 have HTL : Hid (∀ W,Below w.heap.size w W -> Calls Tryz.prog 71 #[.agg q.cells.toArray] W (GPut (gtl q.code l) W)) := fun W hW => gtail_any q l q.kind W (hP.below hW) hok
 have HQN := zh (prp_n hP)
 have HKK := zh hk
 clear hP hok hok1 hk
 go_enter Tryz.func28,Tryz.ntmps28
 go_upto_region 1 with fail
 change Code.wp _ _ _ _ (w.alloc (.cells q.cells.toArray 30))
 have hsz : (w.alloc (.cells q.cells.toArray 30)).heap.size = w.heap.size + 1 := by simp
 generalize w.alloc (.cells q.cells.toArray 30) = wa at HPN HB0 hsz |-
 have b0 := (uh HPN).kind
 rw [uh HKK] at b0
 have b7 := (uh HPN).props
 rw [show q.props.val = .slice q.props.ao q.props.n q.props.cap from rfl,uh HQN] at b7
 go_wp2_with fail
 have HS : Hid (∀ W,Below wa.heap.size wa W -> W.cell? ⟨w.heap.size,15,none⟩ = some (.bool q.session) /\ W.cell? ⟨w.heap.size,14,none⟩ = some (.int .i64 q.code) /\ W.cell? ⟨w.heap.size,7,none⟩ = some (.slice q.props.ao l.length q.props.cap)) := fun W hW => ⟨((uh HPN).below hW).session,((uh HPN).below hW).code,(hW.cell (cell_lt b7)).trans b7⟩
 refine wp_region_noPanic ?_
 refine wp_region_held_drew (S := (fun w' => w'.cell? ⟨w.heap.size,15,none⟩ = some (.bool q.session) /\ w'.cell? ⟨w.heap.size,14,none⟩ = some (.int .i64 q.code) /\ w'.cell? ⟨w.heap.size,7,none⟩ = some (.slice q.props.ao l.length q.props.cap))) (by kernel_rfl) ((uh HS) _ (below_drewN (Below.refl _ _) 1)) (fun hHeld => ?_)
 have HBd : Hid (Below wa.heap.size wa wa.drew) := below_drewN (Below.refl _ _) 1
 have hszd : wa.drew.heap.size = w.heap.size + 1 := hsz
 generalize wa.drew = wd at HBd hHeld hszd |-
 have hz : IntKind.u8.wrap q.code = q.code % 256 := by rfl
 have hy : IntKind.u8.wrap (fv q.session 1) = fv q.session 1 % 256 := by rfl
 have HRNG : ∀ j,0 <= ([fv q.session 1 % 256,q.code % 256] : List Int).getD j 0 /\ ([fv q.session 1 % 256,q.code % 256] : List Int).getD j 0 <= 255 := rng2 (by omega) (by omega)
 have HE : Hid ([fv q.session 1 % 256,q.code % 256] ++ pbs l = [fv q.session 1 % 256,q.code % 256] ++ pbs l) := rfl
 generalize hz2 : q.code % 256 = z at hz HRNG
 generalize hy2 : fv q.session 1 % 256 = y at hy HRNG
 have HZ2 := zh hz2
 have HY0 := zh hy2
 clear hz2 hy2 b0 b7 HE
 refine rtk 0 (h := ?_)
 refine rtk 1 (h := ?_)
 refine rtk 4 (h := ?_)
 refine rtk 5 (h := ?_)
 refine rtk 6 (h := ?_)
 refine rtk 8 (h := ?_)
 refine rtk 9 (h := ?_)
 refine rcl 2 (h := fun K hK => ?_)
 go_simp
 refine (gflag_any q.session 1 _).mono ?_
 rintro e w0 ⟨rfl,hw0⟩
 obtain rfl := hw0.symm
 clear hw0
 refine hK.out _ _ hHeld (fun hHeld => ?_)
 clear hK K
 refine rtk 3 (h := ?_)
 refine wpAnyH_ready (rs := [7,10]) (by kernel_rfl) (by simp) ?_
 refine rac (h := fun K hK => ?_) (hs := rac (h := fun K hK => ?_) (hs := AllReadyH.nil))
 ·go_simp
  have HBx : Hid (Below wa.heap.size wa (wd.alloc (.cells #[.int .u8 y,.int .u8 z] 5))) := (uh HBd).alloc (uh HBd).size _
  have HRx : Hid (Rwb (wd.alloc (.cells #[.int .u8 y,.int .u8 z] 5)) (w.heap.size + 1) (.slice (some ⟨w.heap.size + 1,0,none⟩) 2 2) [y,z]) := by
   have k := rwb_new wd [y,z] (by simp) (by simp) HRNG
   rw [hszd] at k
   exact k
  refine hK.out _ _ ((uh HS) _ (uh HBx)) (fun hHeld => ?_)
  clear hK K
  generalize wd.alloc (.cells #[.int .u8 y,.int .u8 z] 5) = w1 at HBx HRx hHeld |-
  refine rcl 10 (h := fun K hK => ?_)
  go_simp
  refine ((uh HBY) _ (bnx2 (uh HB0) (uh HBx))).mono ?_
  rintro e w2 ⟨vb,rfl,hy2,hb2⟩
  have HB2 : Hid (Below wa.heap.size wa w2) := bnx2 (uh HBx) hb2
  have HR2 := zh ((uh HRx).below hb2)
  have HY2 := hy2
  clear hb2 hy2 HBx HRx
  refine hK.out _ _ ((uh HS) _ (uh HB2)) (fun hHeld => ?_)
  clear hK K
  refine rcl 11 (h := fun K hK => ?_)
  refine step_append_byt rfl _ _ rfl (w.heap.size + 1) (.slice (some ⟨w.heap.size + 1,0,none⟩) 2 2) 2 [y,z] rfl (uh HR2).1 vb (pbs l) rfl (uh HY2) (by first | omega | (simp; omega)) (by have := (uh HB2).size; omega) ?_
  intro v3 w3 hown3 hg3
  have HB3 : Hid (Below wa.heap.size wa w3) := (uh HB2).grown hg3 (uh HB2).size (fun g hg => by have := owns_blk (uh HR2).1 g hg; omega)
  have HR3 : Hid (Rwb w3 (w.heap.size + 1) v3 ([y,z] ++ (pbs l))) := ⟨by rw [List.length_append]; exact hown3,range_app (uh HR2).2 (uh HY2).range⟩
  clear hown3 hg3
  refine hK.out _ _ ((uh HS) _ (uh HB3)) (fun hHeld => ?_)
  clear hK K
  simp only [Act.put,List.setIfInBounds_toArray,List.set_cons_zero,List.set_cons_succ]
  refine rtk 12 (h := ?_)
  refine wpAnyH_done (by kernel_rfl) ?_ _
  refine NoPanic.normal ?_
  go_wp2
  go_ret
  exact ⟨_,rfl,by rw [uh HZ2,uh HY0]; exact (uh HR3).mono (Nat.le_succ _),bnx2 (uh HB0) (uh HB3)⟩
 ·go_simp
  refine ((uh HBY) _ (bnx2 (uh HB0) (uh HBd))).mono ?_
  rintro e w1 ⟨vb,rfl,hy1,hb1⟩
  have HB1 : Hid (Below wa.heap.size wa w1) := bnx2 (uh HBd) hb1
  refine hK.out _ _ ((uh HS) _ (uh HB1)) (fun hHeld => ?_)
  clear hK K
  refine rcl 7 (h := fun K hK => ?_)
  go_simp
  have HB2 : Hid (Below wa.heap.size wa (w1.alloc (.cells #[.int .u8 y,.int .u8 z] 5))) := (uh HB1).alloc (uh HB1).size _
  have hz1 := (uh HB1).size
  have HR2 : Hid (Rwb (w1.alloc (.cells #[.int .u8 y,.int .u8 z] 5)) (w.heap.size + 1) (.slice (some ⟨w1.heap.size,0,none⟩) 2 2) [y,z]) := (rwb_new w1 [y,z] (by simp) (by simp) HRNG).mono (by omega)
  have HY2 := zh ((uh hy1).below ((Below.refl _ _).alloc (Nat.le_refl _) (.cells #[.int .u8 y,.int .u8 z] 5)))
  refine hK.out _ _ ((uh HS) _ (uh HB2)) (fun hHeld => ?_)
  clear hK K hb1 hy1
  generalize w1.alloc (.cells #[.int .u8 y,.int .u8 z] 5) = w2 at HB2 HR2 HY2 hHeld |-
  refine rcl 11 (h := fun K hK => ?_)
  refine step_append_byt rfl _ _ rfl (w.heap.size + 1) (.slice (some ⟨w1.heap.size,0,none⟩) 2 2) 2 [y,z] rfl (uh HR2).1 vb (pbs l) rfl (uh HY2) (by first | omega | (simp; omega)) (by have := (uh HB2).size; omega) ?_
  intro v3 w3 hown3 hg3
  have HB3 : Hid (Below wa.heap.size wa w3) := (uh HB2).grown hg3 (uh HB2).size (fun g hg => by have := owns_blk (uh HR2).1 g hg; omega)
  have HR3 : Hid (Rwb w3 (w.heap.size + 1) v3 ([y,z] ++ (pbs l))) := ⟨by rw [List.length_append]; exact hown3,range_app (uh HR2).2 (uh HY2).range⟩
  clear hown3 hg3
  refine hK.out _ _ ((uh HS) _ (uh HB3)) (fun hHeld => ?_)
  clear hK K
  simp only [Act.put,List.setIfInBounds_toArray,List.set_cons_zero,List.set_cons_succ]
  refine rtk 12 (h := ?_)
  refine wpAnyH_done (by kernel_rfl) ?_ _
  refine NoPanic.normal ?_
  go_wp2
  go_ret
  exact ⟨_,rfl,by rw [uh HZ2,uh HY0]; exact (uh HR3).mono (Nat.le_succ _),bnx2 (uh HB0) (uh HB3)⟩
end Go.Proofs.YtemedclhglkfjaaGreatDoor.K
