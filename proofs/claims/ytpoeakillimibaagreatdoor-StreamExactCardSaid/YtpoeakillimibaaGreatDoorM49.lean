/- Proved here: helpers, one text behind the other. -/
import Derived.Test.YtpoeakillimibaaGreatDoorZKEqW
import Derived.Test.YtpoeakillimibaaGreatDoorM30
import Derived.Deep.RegionHeld3
import Derived.Test.YtpoeakillimibaaGreatDoorZKSpP
set_option maxHeartbeats 20000000
namespace Go.Proofs.YtpoeakillimibaaGreatDoor.K
open Go.RowKit
set_option maxRecDepth 100000
abbrev wl0 : Wl := ⟨⟨#[]⟩,⟨#[]⟩,0,false,[]⟩
def WlIs (w : World) (b off : Nat) (u : Wl) : Prop := ∃ ao n cap,(w.cell? ⟨b,off,none⟩ = some (.string u.topic) /\ w.cell? ⟨b,off + 1,none⟩ = some (.string u.payload) /\ w.cell? ⟨b,off + 2,none⟩ = some (.int .i64 u.qos) /\ w.cell? ⟨b,off + 3,none⟩ = some (.bool u.retain) /\ w.cell? ⟨b,off + 4,none⟩ = some (.slice ao n cap)) /\ Prp w (.slice ao n cap) u.props /\ u.props.length <= 1000000000
def WlAt (w : World) (b off : Nat) (us : List Wl) : Prop := ∀ k,k < us.length -> WlIs w b (off + k * 5) (us.getD k wl0)
theorem WlIs.below {w w' : World} {b off : Nat} {u : Wl} (h : WlIs w b off u) (hb : Below w.heap.size w w') : WlIs w' b off u := by
 obtain ⟨ao,n,cap,⟨h0,h1,h2,h3,h4⟩,h5,h6⟩ := h
 have hl : b < w.heap.size := cell_lt h0
 exact ⟨ao,n,cap,⟨(hb.cell hl).trans h0,(hb.cell hl).trans h1,(hb.cell hl).trans h2,(hb.cell hl).trans h3,(hb.cell hl).trans h4⟩,h5.below hb,h6⟩
theorem wl_eq (u v : Wl) : u = v ↔ (u.topic = v.topic /\ u.payload = v.payload /\ u.qos = v.qos /\ u.retain = v.retain /\ u.props = v.props) := by
 obtain ⟨a,b,c,d,e⟩ := u
 obtain ⟨a',b',c',d',e'⟩ := v
 simp
theorem eqws_core (ba oa bb ob ca cb : Nat) (l m : List Wl) (len : Nat) (w : World) (hl : l.length = len) (hm : m.length = len) (hmx : len <= 1000000000) (ha : WlAt w ba oa l) (hb : WlAt w bb ob m) :
  Calls Tryz.prog 65 #[.slice (some ⟨ba,oa,none⟩) len ca,.slice (some ⟨bb,ob,none⟩) len cb] w fun e w' => (∃ b,e = .returned (.bool b) /\ (b = true ↔ ∀ j,j < len -> l.getD j wl0 = m.getD j wl0)) /\ Below w.heap.size w w' := by
 have HL := zh hl
 have HM := zh hm
 have HA := zh ha
 have HB := zh hb
 clear hl hm ha hb
 go_enter Tryz.func65,Tryz.ntmps65
 go_wp2
 go_loopw [5] (fun i wr => ∃ k : Nat,k <= len /\ i = .int .i64 k /\ Hid (∀ j,j < k -> l.getD j wl0 = m.getD j wl0) /\ Hid (Below w.heap.size w wr)) (fun i _ => len - (intOf i).toNat)
 case atStart => exact ⟨0,Nat.zero_le _,rfl,fun j hj => absurd hj (Nat.not_lt_zero j),Below.refl _ _⟩
 case round =>
  obtain ⟨k,hk,rfl,HALL,HBEL⟩ := hrel
  by_cases hlt : k < len
  ·have hx := ((uh HA) k (by rw [uh HL]; exact hlt)).below (uh HBEL)
   have hy := ((uh HB) k (by rw [uh HM]; exact hlt)).below (uh HBEL)
   have hwl := wl_eq (l.getD k wl0) (m.getD k wl0)
   generalize hu : l.getD k wl0 = u at hx hwl
   generalize hv : m.getD k wl0 = v at hy hwl
   have HU := zh hu
   have HV := zh hv
   have HWL := zh hwl
   clear hu hv hwl
   obtain ⟨ao,n,cap,hc,hp,hq⟩ := hx
   obtain ⟨ao',n',cap',hc',hp',hq'⟩ := hy
   have HP := zh hp
   have HP' := zh hp'
   have HC := zh hc
   have HC' := zh hc'
   have hlb : ba < wr.heap.size := cell_lt hc.1
   have hlb' : bb < wr.heap.size := cell_lt hc'.1
   obtain ⟨x1,x2,x3,x4,x5⟩ := hc
   obtain ⟨y1,y2,y3,y4,y5⟩ := hc'
   clear hp hp'
   have HK : Hid (∀ W : World,Below wr.heap.size wr W -> (fun w' => (w'.cell? ⟨ba,oa + k * 5,none⟩ = some (.string u.topic) /\ w'.cell? ⟨ba,oa + k * 5 + 1,none⟩ = some (.string u.payload) /\ w'.cell? ⟨ba,oa + k * 5 + 2,none⟩ = some (.int .i64 u.qos) /\ w'.cell? ⟨ba,oa + k * 5 + 3,none⟩ = some (.bool u.retain) /\ w'.cell? ⟨ba,oa + k * 5 + 4,none⟩ = some (.slice ao n cap)) /\ (w'.cell? ⟨bb,ob + k * 5,none⟩ = some (.string v.topic) /\ w'.cell? ⟨bb,ob + k * 5 + 1,none⟩ = some (.string v.payload) /\ w'.cell? ⟨bb,ob + k * 5 + 2,none⟩ = some (.int .i64 v.qos) /\ w'.cell? ⟨bb,ob + k * 5 + 3,none⟩ = some (.bool v.retain) /\ w'.cell? ⟨bb,ob + k * 5 + 4,none⟩ = some (.slice ao' n' cap'))) W) := by
    intro W hW
    obtain ⟨x1,x2,x3,x4,x5⟩ := uh HC
    obtain ⟨y1,y2,y3,y4,y5⟩ := uh HC'
    exact ⟨⟨(hW.cell hlb).trans x1,(hW.cell hlb).trans x2,(hW.cell hlb).trans x3,(hW.cell hlb).trans x4,(hW.cell hlb).trans x5⟩,(hW.cell hlb').trans y1,(hW.cell hlb').trans y2,(hW.cell hlb').trans y3,(hW.cell hlb').trans y4,(hW.cell hlb').trans y5⟩
   go_wp2_with fail
   go_region_held3 (fun w' => (w'.cell? ⟨ba,oa + k * 5,none⟩ = some (.string u.topic) /\ w'.cell? ⟨ba,oa + k * 5 + 1,none⟩ = some (.string u.payload) /\ w'.cell? ⟨ba,oa + k * 5 + 2,none⟩ = some (.int .i64 u.qos) /\ w'.cell? ⟨ba,oa + k * 5 + 3,none⟩ = some (.bool u.retain) /\ w'.cell? ⟨ba,oa + k * 5 + 4,none⟩ = some (.slice ao n cap)) /\ (w'.cell? ⟨bb,ob + k * 5,none⟩ = some (.string v.topic) /\ w'.cell? ⟨bb,ob + k * 5 + 1,none⟩ = some (.string v.payload) /\ w'.cell? ⟨bb,ob + k * 5 + 2,none⟩ = some (.int .i64 v.qos) /\ w'.cell? ⟨bb,ob + k * 5 + 3,none⟩ = some (.bool v.retain) /\ w'.cell? ⟨bb,ob + k * 5 + 4,none⟩ = some (.slice ao' n' cap')))
    (first | exact (uh HK) _ (below_drewN (Below.refl _ _) 1) | exact (uh HK) _ (uh HB2) | exact (uh HK) _ (Below.refl _ _))
    (first | (go_at_call 115; refine (eqw_any u.topic v.topic u.payload v.payload u.qos v.qos u.retain v.retain ao ao' n n' cap cap' u.props v.props _ ((uh HP).below (below_drewN (Below.refl _ _) 1)) ((uh HP').below (below_drewN (Below.refl _ _) 1)) hq).mono ?_; rintro e w2 ⟨⟨bo,rfl,hbo⟩,hb2⟩; have HBO := zh hbo; have HB2 : Hid (Below wr.heap.size wr w2) := (below_drewN (Below.refl _ _) 1).trans hb2; clear hbo hb2) | fail)
   have HB3 : Hid (Below w.heap.size w w2) := (uh HBEL).trans ((uh HB2).mono (uh HBEL).size)
   clear HK HC HC' x1 x2 x3 x4 x5 y1 y2 y3 y4 y5 HB2
   have HUV : Hid ((bo = true) ↔ u = v) := (uh HBO).trans (uh HWL).symm
   clear HBO HWL
   cases bo
   ·have HNE : Hid (l.getD k wl0 ≠ m.getD k wl0) := fun e => by
     rw [uh HU,uh HV] at e
     have := (uh HUV).2 e
     cases this
    go_wp2
    go_ret
    refine ⟨⟨_,rfl,?_⟩,uh HB3⟩
    constructor
    ·intro h; cases h
    ·intro h; exact absurd (h k hlt) (uh HNE)
   ·have HE : Hid (l.getD k wl0 = m.getD k wl0) := by
     show _ = _
     rw [uh HU,uh HV]
     exact (uh HUV).1 rfl
    go_wp2
    go_roundw
    case rel => exact ⟨k + 1,by omega,by go_num,fun j hj => by
     rcases Nat.lt_succ_iff_lt_or_eq.1 hj with h | h
     ·exact (uh HALL) j h
     ·rw [h]; exact uh HE,HB3⟩
    case measure => simp [intOf]; omega
  ·go_wp2
   go_ret
   exact ⟨⟨_,rfl,fun _ j hj => (uh HALL) j (by omega),fun _ => rfl⟩,uh HBEL⟩
theorem eqws_len (ao bo : Option Addr) (n m ca cb : Nat) (w : World) (h : n ≠ m) :
  Calls Tryz.prog 65 #[.slice ao n ca,.slice bo m cb] w fun e w' => e = .returned (.bool false) /\ w' = w := by
 have h1 : ((n : Int) == (m : Int)) = false := beq_eq_false_iff_ne.2 (by omega)
 go_enter Tryz.func65,Tryz.ntmps65
 go_wp2
 go_ret
 exact ⟨rfl,rfl⟩
theorem eqws_nil (ao bo : Option Addr) (ca cb : Nat) (w : World) :
  Calls Tryz.prog 65 #[.slice ao 0 ca,.slice bo 0 cb] w fun e w' => e = .returned (.bool true) /\ w' = w := by
 go_enter Tryz.func65,Tryz.ntmps65
 go_wp2
 refine wp_loop_rounds 1 ?_
 rw [rounds_succ]
 go_wp2
 go_ret
 exact ⟨rfl,rfl⟩
def Wls (w : World) (v : Value) (l : List Wl) : Prop := ∃ ao cap,v = .slice ao l.length cap /\ (l.length <= cap /\ cap <= maxLen) /\ (l = [] \/ ∃ b off,ao = some ⟨b,off,none⟩ /\ WlAt w b off l)
theorem wl_ext {l m : List Wl} (hl : l.length = m.length) (h : ∀ j,j < l.length -> l.getD j wl0 = m.getD j wl0) : l = m := by
 apply List.ext_getElem hl
 intro i h1 h2
 have := h i h1
 rw [List.getD_eq_getElem?_getD,List.getD_eq_getElem?_getD,List.getElem?_eq_getElem h1,List.getElem?_eq_getElem h2] at this
 exact this
theorem eqws_any (va vb : Value) (l m : List Wl) (w : World) (ha : Wls w va l) (hb : Wls w vb m) (hmx : l.length <= 1000000000) :
  Calls Tryz.prog 65 #[va,vb] w fun e w' => (∃ b,e = .returned (.bool b) /\ (b = true ↔ l = m)) /\ Below w.heap.size w w' := by
 obtain ⟨ao,ca,rfl,_,ha⟩ := ha
 obtain ⟨bo,cb,rfl,_,hb⟩ := hb
 by_cases hl : l.length = m.length
 ·rcases ha with rfl | ⟨ba,oa,rfl,hca⟩
  ·obtain rfl : m = [] := List.length_eq_zero_iff.1 hl.symm
   refine (eqws_nil _ _ _ _ _).mono ?_
   rintro e w' ⟨rfl,rfl⟩
   exact ⟨⟨true,rfl,by simp⟩,Below.refl _ _⟩
  ·rcases hb with rfl | ⟨bb,ob,rfl,hcb⟩
   ·obtain rfl : l = [] := List.length_eq_zero_iff.1 hl
    refine (eqws_nil _ _ _ _ _).mono ?_
    rintro e w' ⟨rfl,rfl⟩
    exact ⟨⟨true,rfl,by simp⟩,Below.refl _ _⟩
   ·rw [<- hl]
    refine (eqws_core ba oa bb ob ca cb l m l.length w rfl hl.symm hmx hca hcb).mono ?_
    rintro e w' ⟨⟨b,rfl,hbb⟩,hbel⟩
    exact ⟨⟨b,rfl,hbb.trans ⟨fun h => wl_ext hl h,fun h j _ => by rw [h]⟩⟩,hbel⟩
 ·refine (eqws_len ao bo l.length m.length ca cb w hl).mono ?_
  rintro e w' ⟨rfl,rfl⟩
  exact ⟨⟨false,rfl,by constructor; (intro h; cases h); (intro h; exact absurd (by rw [h]) hl)⟩,Below.refl _ _⟩
theorem bind_inv {α β : Type} {f : List Int -> Option (α × List Int)} {g : α -> List Int -> Option (β × List Int)} {l l' : List Int} {y : β} (h : bindR f g l = some (y,l')) : ∃ x l1,f l = some (x,l1) /\ g x l1 = some (y,l') := by
 unfold bindR at h
 cases hf : f l with
 | none => rw [hf] at h; cases h
 | some r => rw [hf] at h; exact ⟨r.1,r.2,rfl,h⟩
theorem pure_inv {α : Type} {x y : α} {l l' : List Int} (h : pureR x l = some (y,l')) : y = x := by
 unfold pureR at h
 cases h
 rfl
theorem must_inv {b : Bool} {l l' : List Int} {u : Unit} (h : mustR b l = some (u,l')) : b = true := by
 unfold mustR at h
 cases b
 ·cases h
 ·rfl
theorem props_len {k : Int} {l l' : List Int} {x : List Pr} (h : props? k l = some (x,l')) : x.length <= 32 := by
 unfold props? at h
 split at h
 next h0 =>
  simp only [Option.some.injEq,Prod.mk.injEq] at h
  obtain ⟨rfl,_⟩ := h
  unfold plist
  rw [if_pos h0]
  cases hp : parse (pbd l) with
  | none => simp
  | some q =>
   show q.length <= 32
   unfold pgt at h0
   split at h0
   ·contradiction
   ·split at h0
    ·cases h0
    ·rw [rdn_some k _ q hp] at h0
     unfold chkP at h0
     split at h0
     ·split at h0
      ·assumption
      ·cases h0
     ·cases h0
 next => cases h
theorem reason_len {k : Int} {l l' : List Int} {r : Int × List Pr} (h : reason? k l = some (r,l')) : r.2.length <= 32 := by
 unfold reason? at h
 cases l with
 | nil => cases h; simp
 | cons c t =>
  simp only at h
  split at h
  ·cases h; simp
  ·cases hp : props? k t with
   | none => rw [hp] at h; cases h
   | some q =>
    rw [hp] at h
    simp only [Option.map_some,Option.some.injEq,Prod.mk.injEq] at h
    obtain ⟨rfl,_⟩ := h
    obtain ⟨q1,q2⟩ := q
    exact props_len hp
theorem list_len {α : Type} {f : List Int -> Option (α × List Int)} {l l' : List Int} {d : List α} (h : list? f l = some (d,l')) : d.length <= 16 := by
 unfold list? at h
 obtain ⟨x,l1,_,h⟩ := bind_inv h
 obtain ⟨_,l2,h1,h⟩ := bind_inv h
 have e := must_inv h1
 obtain rfl := pure_inv h
 unfold mc at e
 simp only [Bool.and_eq_true,decide_eq_true_eq] at e
 omega
theorem opt_len {α : Type} (o : Option α) : o.toList.length <= 1 := by cases o <;> simp
theorem body_lts {k : Int} {d : Bool} {q : Int} {r : Bool} {l l' : List Int} {P : Pa} (h : body? (pa0 k d q r) l = some (P,l')) : Lts P := by
 unfold body? at h
 by_cases h20 : (pa0 k d q r).kind = 1
 ·rw [if_pos h20] at h
  obtain ⟨n,l1,h1,h⟩ := bind_inv h
  obtain rfl := pure_inv h
  unfold connect? at h1
  obtain ⟨_,_,_,h1⟩ := bind_inv h1
  obtain ⟨_,_,_,h1⟩ := bind_inv h1
  obtain ⟨_,_,_,h1⟩ := bind_inv h1
  obtain ⟨_,_,_,h1⟩ := bind_inv h1
  obtain ⟨x,_,_,h1⟩ := bind_inv h1
  obtain ⟨kk,_,_,h1⟩ := bind_inv h1
  obtain ⟨pr,_,hpr,h1⟩ := bind_inv h1
  obtain ⟨c,_,_,h1⟩ := bind_inv h1
  obtain ⟨wl,_,hwl,h1⟩ := bind_inv h1
  obtain ⟨us,_,_,h1⟩ := bind_inv h1
  obtain ⟨pa,_,_,h1⟩ := bind_inv h1
  obtain rfl := pure_inv h1
  refine ⟨props_len hpr,?_,?_,opt_len _,opt_len _,by simp [ofCn,pa0],by simp [ofCn,pa0],by simp [ofCn,pa0]⟩
  ·show (wlOf x wl).length <= 1
   unfold wlOf
   split <;> simp
  ·intro u hu
   replace hu : u ∈ wlOf x wl := hu
   unfold will? at hwl
   by_cases h4 : btest x 4 = true
   ·rw [if_pos h4] at hwl
    obtain ⟨q2,_,hq,hwl⟩ := bind_inv hwl
    obtain ⟨t,_,_,hwl⟩ := bind_inv hwl
    obtain ⟨y,_,_,hwl⟩ := bind_inv hwl
    obtain rfl := pure_inv hwl
    simp [wlOf] at hu
    subst hu
    exact props_len hq
   ·rw [if_neg h4] at hwl
    obtain rfl := pure_inv hwl
    simp [wlOf] at hu
 ·rw [if_neg h20] at h
  by_cases h21 : (pa0 k d q r).kind = 2
  ·rw [if_pos h21] at h
   obtain ⟨f,_,_,h⟩ := bind_inv h
   obtain ⟨_,_,_,h⟩ := bind_inv h
   obtain ⟨c,_,_,h⟩ := bind_inv h
   obtain ⟨x,_,hx,h⟩ := bind_inv h
   obtain rfl := pure_inv h
   exact ⟨props_len hx,by simp [pa0],by simp [pa0],by simp [pa0],by simp [pa0],by simp [pa0],by simp [pa0],by simp [pa0]⟩
  ·rw [if_neg h21] at h
   by_cases h22 : (pa0 k d q r).kind = 3
   ·rw [if_pos h22] at h
    obtain ⟨r',_,h1,h⟩ := bind_inv h
    obtain rfl := pure_inv h
    unfold publish? at h1
    obtain ⟨t,_,_,h1⟩ := bind_inv h1
    obtain ⟨i,_,_,h1⟩ := bind_inv h1
    obtain ⟨x,_,hx,h1⟩ := bind_inv h1
    obtain ⟨y,_,_,h1⟩ := bind_inv h1
    obtain rfl := pure_inv h1
    exact ⟨props_len hx,by simp [pa0],by simp [pa0],by simp [pa0],by simp [pa0],by simp [pa0],by simp [pa0],by simp [pa0]⟩
   ·rw [if_neg h22] at h
    by_cases h23 : (pa0 k d q r).kind = 8
    ·rw [if_pos h23] at h
     obtain ⟨i,_,_,h⟩ := bind_inv h
     obtain ⟨x,_,hx,h⟩ := bind_inv h
     obtain ⟨dd,_,hd,h⟩ := bind_inv h
     obtain rfl := pure_inv h
     exact ⟨props_len hx,by simp [pa0],by simp [pa0],by simp [pa0],by simp [pa0],list_len hd,by simp [pa0],by simp [pa0]⟩
    ·rw [if_neg h23] at h
     by_cases h24 : (pa0 k d q r).kind = 10
     ·rw [if_pos h24] at h
      obtain ⟨i,_,_,h⟩ := bind_inv h
      obtain ⟨x,_,hx,h⟩ := bind_inv h
      obtain ⟨dd,_,hd,h⟩ := bind_inv h
      obtain rfl := pure_inv h
      exact ⟨props_len hx,by simp [pa0],by simp [pa0],by simp [pa0],by simp [pa0],by simp [pa0],list_len hd,by simp [pa0]⟩
     ·rw [if_neg h24] at h
      by_cases h25 : (pa0 k d q r).kind = 9 \/ (pa0 k d q r).kind = 11
      ·rw [if_pos h25] at h
       obtain ⟨i,_,_,h⟩ := bind_inv h
       obtain ⟨x,_,hx,h⟩ := bind_inv h
       obtain ⟨dd,_,hd,h⟩ := bind_inv h
       obtain rfl := pure_inv h
       exact ⟨props_len hx,by simp [pa0],by simp [pa0],by simp [pa0],by simp [pa0],by simp [pa0],by simp [pa0],list_len hd⟩
      ·rw [if_neg h25] at h
       by_cases h26 : (pa0 k d q r).kind = 4 \/ (pa0 k d q r).kind = 5 \/ (pa0 k d q r).kind = 6 \/ (pa0 k d q r).kind = 7
       ·rw [if_pos h26] at h
        obtain ⟨i,_,_,h⟩ := bind_inv h
        obtain ⟨r',_,hr,h⟩ := bind_inv h
        obtain rfl := pure_inv h
        exact ⟨reason_len hr,by simp [pa0],by simp [pa0],by simp [pa0],by simp [pa0],by simp [pa0],by simp [pa0],by simp [pa0]⟩
       ·rw [if_neg h26] at h
        by_cases h27 : (pa0 k d q r).kind = 14 \/ (pa0 k d q r).kind = 15
        ·rw [if_pos h27] at h
         obtain ⟨r',_,hr,h⟩ := bind_inv h
         obtain rfl := pure_inv h
         exact ⟨reason_len hr,by simp [pa0],by simp [pa0],by simp [pa0],by simp [pa0],by simp [pa0],by simp [pa0],by simp [pa0]⟩
        ·rw [if_neg h27] at h
         obtain rfl := pure_inv h
         exact ⟨by simp [pa0],by simp [pa0],by simp [pa0],by simp [pa0],by simp [pa0],by simp [pa0],by simp [pa0],by simp [pa0]⟩
theorem dbody_lts {l l' : List Int} {P : Pa} (h : dbody l = some (P,l')) : Lts P := by
 unfold dbody packet? at h
 obtain ⟨P',_,h1,h⟩ := bind_inv h
 obtain ⟨_,_,_,h⟩ := bind_inv h
 obtain rfl := pure_inv h
 unfold bpa at h1
 split at h1
 ·exact body_lts h1
 ·exact body_lts h1
end Go.Proofs.YtpoeakillimibaaGreatDoor.K
