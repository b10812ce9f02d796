/- Proved here: helpers, one text behind the other. -/
import Derived.Test.YtemedclhglkfjaaGreatDoorM35
import Derived.Test.YtemedclhglkfjaaGreatDoorM36
import Derived.Test.YtemedclhglkfjaaGreatDoorZKEqW
import Derived.Deep.RegionHeld3
import Derived.Test.YtemedclhglkfjaaGreatDoorM26
import Derived.Test.YtemedclhglkfjaaGreatDoorM33
import Derived.Deep.WholeRow
set_option maxHeartbeats 20000000
namespace Go.Proofs.YtemedclhglkfjaaGreatDoor.K
open Go.RowKit
structure Wl where
 topic : ByteArray
 payload : ByteArray
 qos : Int
 retain : Bool
 props : List Pr
structure Pa where
 kind : Int
 dup : Bool
 qos : Int
 retain : Bool
 topic : ByteArray
 id : Int
 payload : ByteArray
 props : List Pr
 client : ByteArray
 clean : Bool
 keep : Int
 wills : List Wl
 user : List ByteArray
 pass : List ByteArray
 code : Int
 session : Bool
 subs : List Sb
 filters : List ByteArray
 codes : List Int
def pa0 (kind : Int) (dup : Bool) (qos : Int) (retain : Bool) : Pa := ⟨kind,dup,qos,retain,⟨#[]⟩,0,⟨#[]⟩,[],⟨#[]⟩,false,0,[],[],[],0,false,[],[],[]⟩
abbrev sl0 : Sl := ⟨none,0,0⟩
def pk0 (kind : Int) (dup : Bool) (qos : Int) (retain : Bool) : Pkv := ⟨kind,dup,qos,retain,⟨#[]⟩,0,⟨#[]⟩,sl0,⟨#[]⟩,false,0,sl0,sl0,sl0,0,false,sl0,sl0,sl0⟩
def Ws (w : World) (B : Nat) (ws : List Wv) (us : List Wl) : Prop := ws.length = us.length /\ ∀ (i : Nat) (a : Wv) (b : Wl),ws[i]? = some a -> us[i]? = some b -> a.topic = b.topic /\ a.payload = b.payload /\ a.qos = b.qos /\ a.retain = b.retain /\ w.ownsRow B 83 4 a.props.val b.props.length (pcs b.props)
structure Mean (w : World) (B : Nat) (p : Pkv) (P : Pa) : Prop where
 sc : p.kind = P.kind /\ p.dup = P.dup /\ p.qos = P.qos /\ p.retain = P.retain /\ p.topic = P.topic /\ p.id = P.id /\ p.payload = P.payload /\ p.client = P.client /\ p.clean = P.clean /\ p.keep = P.keep /\ p.code = P.code /\ p.session = P.session
 props : w.ownsRow B 83 4 p.props.val P.props.length (pcs P.props)
 wills : ∃ ws,w.ownsRow B 52 5 p.wills.val P.wills.length (wcs ws) /\ Ws w B ws P.wills
 user : w.ownsRow B 9 1 p.user.val P.user.length (P.user.map Value.string)
 pass : w.ownsRow B 9 1 p.pass.val P.pass.length (P.pass.map Value.string)
 subs : w.ownsRow B 54 5 p.subs.val P.subs.length (scs P.subs)
 filters : w.ownsRow B 9 1 p.filters.val P.filters.length (P.filters.map Value.string)
 codes : w.ownsRow B 3 1 p.codes.val P.codes.length (P.codes.map (Value.int .i64))
theorem row0 (w : World) (B : Nat) (e : TypeId) (s : Nat) : w.ownsRow B e s sl0.val 0 [] := World.ownsRow_nil _ _ _ _
theorem wills0 (w : World) (B : Nat) : ∃ ws,w.ownsRow B 52 5 sl0.val 0 (wcs ws) /\ Ws w B ws [] := ⟨[],World.ownsRow_nil _ _ _ _,rfl,fun i a b h => by simp at h⟩
theorem row_str {w : World} {B R U : Nat} {b : Bool} {us : Option ByteArray} (h : StrAt B R w b U us) : w.ownsRow B 9 1 (isW U b).val us.toList.length (us.toList.map Value.string) := by
 cases b
 ·rw [h.1 rfl]
  exact row0 _ _ _ _
 ·obtain ⟨t,rfl,h2,h3,h4,h5⟩ := h.2 rfl
  exact ⟨rfl,.inr ⟨U,1,_,rfl,h2,h5,Nat.le_refl _,by unfold maxLen; simp,rfl,rfl⟩⟩
def wlOf (x : Int) (wl : Option (List Pr × ByteArray × ByteArray)) : List Wl := match wl with
 | none => []
 | some (q,t,y) => [⟨t,y,x / 8 % 4,btest x 32,q⟩]
theorem row_will {w : World} {B N R V : Nat} {x : Int} {wl : Option (List Pr × ByteArray × ByteArray)} (h : WillAt B N R w x V wl) (hN : B <= N) : ∃ ws,w.ownsRow B 52 5 (isW V (btest x 4)).val (wlOf x wl).length (wcs ws) /\ Ws w B ws (wlOf x wl) := by
 cases hb : btest x 4
 ·rw [h.1 hb]
  exact wills0 _ _
 ·obtain ⟨q,t,y,tq,rfl,h2,h3,h4,h5,h6⟩ := h.2 hb
  refine ⟨[⟨t,y,x / 8 % 4,btest x 32,tq⟩],⟨rfl,.inr ⟨V,1,_,rfl,h2,h5,Nat.le_refl _,by unfold maxLen; simp,rfl,rfl⟩⟩,rfl,fun i a b ha hb => ?_⟩
  match i,ha,hb with
  | 0,ha,hb =>
   simp [wlOf] at ha hb
   subst ha hb
   exact ⟨rfl,rfl,rfl,rfl,owns_mono h6 hN⟩
  | i + 1,ha,_ => simp at ha
def endR (l : List Int) : Option (Unit × List Int) := if l.length = 0 then some ((),l) else none
def ofCn (P : Pa) (n : Cn) : Pa := { P with clean := btest n.x 2,keep := n.keep,props := n.props,client := n.client,wills := wlOf n.x n.will,user := n.user.toList,pass := n.pass.toList }
def body? (P : Pa) : List Int -> Option (Pa × List Int) :=
 if P.kind = 1 then bindR connect? fun n => pureR (ofCn P n)
 else if P.kind = 2 then bindR one? fun f => bindR (mustR (decide (f <= 1))) fun _ => bindR one? fun c => bindR (props? 2) fun x => pureR { P with session := f == 1,code := c,props := x }
 else if P.kind = 3 then bindR (publish? P.qos) fun r => pureR { P with topic := r.1,id := r.2.1,props := r.2.2.1,payload := r.2.2.2 }
 else if P.kind = 8 then bindR id? fun i => bindR (props? P.kind) fun x => bindR (list? sub?) fun d => pureR { P with id := i,props := x,subs := d }
 else if P.kind = 10 then bindR id? fun i => bindR (props? P.kind) fun x => bindR (list? text?) fun d => pureR { P with id := i,props := x,filters := d }
 else if P.kind = 9 \/ P.kind = 11 then bindR id? fun i => bindR (props? P.kind) fun x => bindR (list? one?) fun d => pureR { P with id := i,props := x,codes := d }
 else if P.kind = 4 \/ P.kind = 5 \/ P.kind = 6 \/ P.kind = 7 then bindR id? fun i => bindR (reason? P.kind) fun r => pureR { P with id := i,code := r.1,props := r.2 }
 else if P.kind = 14 \/ P.kind = 15 then bindR (reason? P.kind) fun r => pureR { P with code := r.1,props := r.2 }
 else pureR P
def packet? (P : Pa) : List Int -> Option (Pa × List Int) := bindR (body? P) fun P' => bindR endR fun _ => pureR P'
theorem stp_end {st : Option (List Int)} {n : Nat} (h : ∀ l,st = some l -> l.length = n) (b : Bool) (hb : b = decide (n = 0)) : Stp endR st () (if b then st else none) := by
 cases st with
 | none => cases b <;> rfl
 | some l =>
  have := h l rfl
  subst hb
  unfold Stp endR
  by_cases hn : n = 0
  ·simp [hn,this]
  ·simp [hn,this]
set_option maxRecDepth 100000
abbrev wl0 : Wl := ⟨⟨#[]⟩,⟨#[]⟩,0,false,[]⟩
def WlIs (w : World) (b off : Nat) (u : Wl) : Prop := ∃ ao n cap,(w.cell? ⟨b,off,none⟩ = some (.string u.topic) /\ w.cell? ⟨b,off + 1,none⟩ = some (.string u.payload) /\ w.cell? ⟨b,off + 2,none⟩ = some (.int .i64 u.qos) /\ w.cell? ⟨b,off + 3,none⟩ = some (.bool u.retain) /\ w.cell? ⟨b,off + 4,none⟩ = some (.slice ao n cap)) /\ Prp w (.slice ao n cap) u.props /\ u.props.length <= 1000000000
def WlAt (w : World) (b off : Nat) (us : List Wl) : Prop := ∀ k,k < us.length -> WlIs w b (off + k * 5) (us.getD k wl0)
theorem WlIs.below {w w' : World} {b off : Nat} {u : Wl} (h : WlIs w b off u) (hb : Below w.heap.size w w') : WlIs w' b off u := by
 obtain ⟨ao,n,cap,⟨h0,h1,h2,h3,h4⟩,h5,h6⟩ := h
 have hl : b < w.heap.size := cell_lt h0
 exact ⟨ao,n,cap,⟨(hb.cell hl).trans h0,(hb.cell hl).trans h1,(hb.cell hl).trans h2,(hb.cell hl).trans h3,(hb.cell hl).trans h4⟩,h5.below hb,h6⟩
theorem wl_eq (u v : Wl) : u = v ↔ (u.topic = v.topic /\ u.payload = v.payload /\ u.qos = v.qos /\ u.retain = v.retain /\ u.props = v.props) := by
 obtain ⟨a,b,c,d,e⟩ := u
 obtain ⟨a',b',c',d',e'⟩ := v
 simp
theorem eqws_core (ba oa bb ob ca cb : Nat) (l m : List Wl) (len : Nat) (w : World) (hl : l.length = len) (hm : m.length = len) (hmx : len <= 1000000000) (ha : WlAt w ba oa l) (hb : WlAt w bb ob m) :
  Calls Tryz.prog 33 #[.slice (some ⟨ba,oa,none⟩) len ca,.slice (some ⟨bb,ob,none⟩) len cb] w fun e w' => (∃ b,e = .returned (.bool b) /\ (b = true ↔ ∀ j,j < len -> l.getD j wl0 = m.getD j wl0)) /\ Below w.heap.size w w' := by
 have HL := zh hl
 have HM := zh hm
 have HA := zh ha
 have HB := zh hb
 clear hl hm ha hb
 go_enter Tryz.func33,Tryz.ntmps33
 go_wp2
 go_loopw [5] (fun i wr => ∃ k : Nat,k <= len /\ i = .int .i64 k /\ Hid (∀ j,j < k -> l.getD j wl0 = m.getD j wl0) /\ Hid (Below w.heap.size w wr)) (fun i _ => len - (intOf i).toNat)
 case atStart => exact ⟨0,Nat.zero_le _,rfl,fun j hj => absurd hj (Nat.not_lt_zero j),Below.refl _ _⟩
 case round =>
  obtain ⟨k,hk,rfl,HALL,HBEL⟩ := hrel
  by_cases hlt : k < len
  ·have hx := ((uh HA) k (by rw [uh HL]; exact hlt)).below (uh HBEL)
   have hy := ((uh HB) k (by rw [uh HM]; exact hlt)).below (uh HBEL)
   have hwl := wl_eq (l.getD k wl0) (m.getD k wl0)
   generalize hu : l.getD k wl0 = u at hx hwl
   generalize hv : m.getD k wl0 = v at hy hwl
   have HU := zh hu
   have HV := zh hv
   have HWL := zh hwl
   clear hu hv hwl
   obtain ⟨ao,n,cap,hc,hp,hq⟩ := hx
   obtain ⟨ao',n',cap',hc',hp',hq'⟩ := hy
   have HP := zh hp
   have HP' := zh hp'
   have HC := zh hc
   have HC' := zh hc'
   have hlb : ba < wr.heap.size := cell_lt hc.1
   have hlb' : bb < wr.heap.size := cell_lt hc'.1
   obtain ⟨x1,x2,x3,x4,x5⟩ := hc
   obtain ⟨y1,y2,y3,y4,y5⟩ := hc'
   clear hp hp'
   have HK : Hid (∀ W : World,Below wr.heap.size wr W -> (fun w' => (w'.cell? ⟨ba,oa + k * 5,none⟩ = some (.string u.topic) /\ w'.cell? ⟨ba,oa + k * 5 + 1,none⟩ = some (.string u.payload) /\ w'.cell? ⟨ba,oa + k * 5 + 2,none⟩ = some (.int .i64 u.qos) /\ w'.cell? ⟨ba,oa + k * 5 + 3,none⟩ = some (.bool u.retain) /\ w'.cell? ⟨ba,oa + k * 5 + 4,none⟩ = some (.slice ao n cap)) /\ (w'.cell? ⟨bb,ob + k * 5,none⟩ = some (.string v.topic) /\ w'.cell? ⟨bb,ob + k * 5 + 1,none⟩ = some (.string v.payload) /\ w'.cell? ⟨bb,ob + k * 5 + 2,none⟩ = some (.int .i64 v.qos) /\ w'.cell? ⟨bb,ob + k * 5 + 3,none⟩ = some (.bool v.retain) /\ w'.cell? ⟨bb,ob + k * 5 + 4,none⟩ = some (.slice ao' n' cap'))) W) := by
    intro W hW
    obtain ⟨x1,x2,x3,x4,x5⟩ := uh HC
    obtain ⟨y1,y2,y3,y4,y5⟩ := uh HC'
    exact ⟨⟨(hW.cell hlb).trans x1,(hW.cell hlb).trans x2,(hW.cell hlb).trans x3,(hW.cell hlb).trans x4,(hW.cell hlb).trans x5⟩,(hW.cell hlb').trans y1,(hW.cell hlb').trans y2,(hW.cell hlb').trans y3,(hW.cell hlb').trans y4,(hW.cell hlb').trans y5⟩
   go_wp2_with fail
   go_region_held3 (fun w' => (w'.cell? ⟨ba,oa + k * 5,none⟩ = some (.string u.topic) /\ w'.cell? ⟨ba,oa + k * 5 + 1,none⟩ = some (.string u.payload) /\ w'.cell? ⟨ba,oa + k * 5 + 2,none⟩ = some (.int .i64 u.qos) /\ w'.cell? ⟨ba,oa + k * 5 + 3,none⟩ = some (.bool u.retain) /\ w'.cell? ⟨ba,oa + k * 5 + 4,none⟩ = some (.slice ao n cap)) /\ (w'.cell? ⟨bb,ob + k * 5,none⟩ = some (.string v.topic) /\ w'.cell? ⟨bb,ob + k * 5 + 1,none⟩ = some (.string v.payload) /\ w'.cell? ⟨bb,ob + k * 5 + 2,none⟩ = some (.int .i64 v.qos) /\ w'.cell? ⟨bb,ob + k * 5 + 3,none⟩ = some (.bool v.retain) /\ w'.cell? ⟨bb,ob + k * 5 + 4,none⟩ = some (.slice ao' n' cap')))
    (first | exact (uh HK) _ (below_drewN (Below.refl _ _) 1) | exact (uh HK) _ (uh HB2) | exact (uh HK) _ (Below.refl _ _))
    (first | (go_at_call 73; refine (eqw_any u.topic v.topic u.payload v.payload u.qos v.qos u.retain v.retain ao ao' n n' cap cap' u.props v.props _ ((uh HP).below (below_drewN (Below.refl _ _) 1)) ((uh HP').below (below_drewN (Below.refl _ _) 1)) hq).mono ?_; rintro e w2 ⟨⟨bo,rfl,hbo⟩,hb2⟩; have HBO := zh hbo; have HB2 : Hid (Below wr.heap.size wr w2) := (below_drewN (Below.refl _ _) 1).trans hb2; clear hbo hb2) | fail)
   have HB3 : Hid (Below w.heap.size w w2) := (uh HBEL).trans ((uh HB2).mono (uh HBEL).size)
   clear HK HC HC' x1 x2 x3 x4 x5 y1 y2 y3 y4 y5 HB2
   have HUV : Hid ((bo = true) ↔ u = v) := (uh HBO).trans (uh HWL).symm
   clear HBO HWL
   cases bo
   ·have HNE : Hid (l.getD k wl0 ≠ m.getD k wl0) := fun e => by
     rw [uh HU,uh HV] at e
     have := (uh HUV).2 e
     cases this
    go_wp2
    go_ret
    refine ⟨⟨_,rfl,?_⟩,uh HB3⟩
    constructor
    ·intro h; cases h
    ·intro h; exact absurd (h k hlt) (uh HNE)
   ·have HE : Hid (l.getD k wl0 = m.getD k wl0) := by
     show _ = _
     rw [uh HU,uh HV]
     exact (uh HUV).1 rfl
    go_wp2
    go_roundw
    case rel => exact ⟨k + 1,by omega,by go_num,fun j hj => by
     rcases Nat.lt_succ_iff_lt_or_eq.1 hj with h | h
     ·exact (uh HALL) j h
     ·rw [h]; exact uh HE,HB3⟩
    case measure => simp [intOf]; omega
  ·go_wp2
   go_ret
   exact ⟨⟨_,rfl,fun _ j hj => (uh HALL) j (by omega),fun _ => rfl⟩,uh HBEL⟩
theorem eqws_len (ao bo : Option Addr) (n m ca cb : Nat) (w : World) (h : n ≠ m) :
  Calls Tryz.prog 33 #[.slice ao n ca,.slice bo m cb] w fun e w' => e = .returned (.bool false) /\ w' = w := by
 have h1 : ((n : Int) == (m : Int)) = false := beq_eq_false_iff_ne.2 (by omega)
 go_enter Tryz.func33,Tryz.ntmps33
 go_wp2
 go_ret
 exact ⟨rfl,rfl⟩
theorem eqws_nil (ao bo : Option Addr) (ca cb : Nat) (w : World) :
  Calls Tryz.prog 33 #[.slice ao 0 ca,.slice bo 0 cb] w fun e w' => e = .returned (.bool true) /\ w' = w := by
 go_enter Tryz.func33,Tryz.ntmps33
 go_wp2
 refine wp_loop_rounds 1 ?_
 rw [rounds_succ]
 go_wp2
 go_ret
 exact ⟨rfl,rfl⟩
def Wls (w : World) (v : Value) (l : List Wl) : Prop := ∃ ao cap,v = .slice ao l.length cap /\ (l.length <= cap /\ cap <= maxLen) /\ (l = [] \/ ∃ b off,ao = some ⟨b,off,none⟩ /\ WlAt w b off l)
theorem wl_ext {l m : List Wl} (hl : l.length = m.length) (h : ∀ j,j < l.length -> l.getD j wl0 = m.getD j wl0) : l = m := by
 apply List.ext_getElem hl
 intro i h1 h2
 have := h i h1
 rw [List.getD_eq_getElem?_getD,List.getD_eq_getElem?_getD,List.getElem?_eq_getElem h1,List.getElem?_eq_getElem h2] at this
 exact this
theorem eqws_any (va vb : Value) (l m : List Wl) (w : World) (ha : Wls w va l) (hb : Wls w vb m) (hmx : l.length <= 1000000000) :
  Calls Tryz.prog 33 #[va,vb] w fun e w' => (∃ b,e = .returned (.bool b) /\ (b = true ↔ l = m)) /\ Below w.heap.size w w' := by
 obtain ⟨ao,ca,rfl,_,ha⟩ := ha
 obtain ⟨bo,cb,rfl,_,hb⟩ := hb
 by_cases hl : l.length = m.length
 ·rcases ha with rfl | ⟨ba,oa,rfl,hca⟩
  ·obtain rfl : m = [] := List.length_eq_zero_iff.1 hl.symm
   refine (eqws_nil _ _ _ _ _).mono ?_
   rintro e w' ⟨rfl,rfl⟩
   exact ⟨⟨true,rfl,by simp⟩,Below.refl _ _⟩
  ·rcases hb with rfl | ⟨bb,ob,rfl,hcb⟩
   ·obtain rfl : l = [] := List.length_eq_zero_iff.1 hl
    refine (eqws_nil _ _ _ _ _).mono ?_
    rintro e w' ⟨rfl,rfl⟩
    exact ⟨⟨true,rfl,by simp⟩,Below.refl _ _⟩
   ·rw [<- hl]
    refine (eqws_core ba oa bb ob ca cb l m l.length w rfl hl.symm hmx hca hcb).mono ?_
    rintro e w' ⟨⟨b,rfl,hbb⟩,hbel⟩
    exact ⟨⟨b,rfl,hbb.trans ⟨fun h => wl_ext hl h,fun h j _ => by rw [h]⟩⟩,hbel⟩
 ·refine (eqws_len ao bo l.length m.length ca cb w hl).mono ?_
  rintro e w' ⟨rfl,rfl⟩
  exact ⟨⟨false,rfl,by constructor; (intro h; cases h); (intro h; exact absurd (by rw [h]) hl)⟩,Below.refl _ _⟩
theorem sh16 (x : Int) (h0 : 0 <= x) (h1 : x <= 255) : x >>> 4 = x / 16 := byte_cases (P := fun x => x >>> 4 = x / 16) (by decide +kernel) x h0 h1
theorem and15 (x : Int) (h0 : 0 <= x) (h1 : x <= 255) : bits .and .i64 x 15 = x % 16 := byte_cases (P := fun x => bits .and .i64 x 15 = x % 16) (by decide +kernel) x h0 h1
theorem and8' (x : Int) (h0 : 0 <= x) (h1 : x <= 255) : (bits .and .i64 (x % 16) 8 != 0) = btest x 8 := byte_cases (P := fun x => (bits .and .i64 (x % 16) 8 != 0) = btest x 8) (by decide +kernel) x h0 h1
theorem and1' (x : Int) (h0 : 0 <= x) (h1 : x <= 255) : (bits .and .i64 (x % 16) 1 != 0) = btest x 1 := byte_cases (P := fun x => (bits .and .i64 (x % 16) 1 != 0) = btest x 1) (by decide +kernel) x h0 h1
theorem shq' (x : Int) (h0 : 0 <= x) (h1 : x <= 255) : bits .and .i64 (x % 16 / 2) 3 = x / 2 % 4 := byte_cases (P := fun x => bits .and .i64 (x % 16 / 2) 3 = x / 2 % 4) (by decide +kernel) x h0 h1
def bpk (b : Int) : Pkv := if b / 16 = 3 then pk0 3 (btest b 8) (b / 2 % 4) (btest b 1) else pk0 (b / 16) false 0 false
def bpa (b : Int) : Pa := if b / 16 = 3 then pa0 3 (btest b 8) (b / 2 % 4) (btest b 1) else pa0 (b / 16) false 0 false
def bfl (b : Int) : Int := if b / 16 = 3 then pfl (btest b 8) (b / 2 % 4) (btest b 1) else if b / 16 = 6 \/ b / 16 = 8 \/ b / 16 = 10 then 2 else 0
def bmay (b : Int) : Bool := if b / 16 = 3 then pok (btest b 8) (b / 2 % 4) else if b / 16 = 6 \/ b / 16 = 8 \/ b / 16 = 10 then true else decide (1 <= b / 16) && decide (b / 16 <= 15)
def bok (b : Int) : Bool := bmay b && (bfl b == b % 16)
theorem flagsOf_b (b : Int) (w : World) : Calls Tryz.prog 22 #[(bpk b).val] w fun e w' => e = .returned (.tuple #[.int .i64 (bfl b),.bool (bmay b)]) /\ Below w.heap.size w w' := by
 unfold bfl bmay bpk
 by_cases h3 : b / 16 = 3
 ·simp only [if_pos h3]
  exact flagsOf_pub _ w rfl
 ·simp only [if_neg h3]
  by_cases h6 : b / 16 = 6 \/ b / 16 = 8 \/ b / 16 = 10
  ·simp only [if_pos h6]
   exact flagsOf_fixed _ w h6
  ·simp only [if_neg h6]
   exact flagsOf_other _ w h3 (fun e => h6 (.inl e)) (fun e => h6 (.inr (.inl e))) (fun e => h6 (.inr (.inr e)))
theorem begin_any (b : Int) (h0 : 0 <= b) (h1 : b <= 255) (w : World) : Calls Tryz.prog 37 #[.int .i64 b] w fun e w' => e = .returned (.tuple #[(bpk b).val,.bool (bok b)]) /\ Below w.heap.size w w' := by
 have k1 := sh16 b h0 h1
 have k2 := and15 b h0 h1
 have k3 := and8' b h0 h1
 have k4 := and1' b h0 h1
 have k5 := shq' b h0 h1
 by_cases h3 : b / 16 = 3
 ·have e1 : bpk b = pk0 3 (btest b 8) (b / 2 % 4) (btest b 1) := if_pos h3
  have HE := zh e1
  clear e1
  have HPN := zh (pk_new w (pk0 3 (btest b 8) (b / 2 % 4) (btest b 1)))
  have hbN : Hid (Below w.heap.size w (w.alloc (.cells (pk0 3 (btest b 8) (b / 2 % 4) (btest b 1)).cells.toArray 30))) := bal _ _
  have HFL : Hid (∀ W : World,Calls Tryz.prog 22 #[.agg (pk0 3 (btest b 8) (b / 2 % 4) (btest b 1)).cells.toArray] W fun e w' => e = .returned (.tuple #[.int .i64 (bfl b),.bool (bmay b)]) /\ Below W.heap.size W w') := fun W => by
   have k := flagsOf_b b W
   rw [uh HE] at k
   exact k
  have HR : Hid (∀ mb fl,bmay b = mb -> bfl b = fl -> bok b = (mb && (fl == b % 16))) := fun mb fl e1 e2 => by rw [<- e1,<- e2]; rfl
  generalize hfl : bfl b = fl at HFL
  generalize hmb : bmay b = mb at HFL
  have HOK := zh ((uh HR) mb fl hmb hfl)
  clear hfl hmb HR
  go_enter Tryz.func37,Tryz.ntmps37
  go_upto_region 6 with fail
  go_step
  refine wpList_load_mid rfl 30 _ rfl w.heap.size 0 rfl (pk0 3 (btest b 8) (b / 2 % 4) (btest b 1)).cells _ (uh HPN).range Tryz.underlying30 rfl packet_size ?_
  simp only [Act.put,List.setIfInBounds_toArray,List.set_cons_zero,List.set_cons_succ]
  go_wp2_with fail
  refine ((uh HFL) _).mono ?_
  rintro e w1 ⟨rfl,hb1⟩
  have HP1 := zh ((uh HPN).below hb1)
  have HB1 : Hid (Below w.heap.size w w1) := (uh hbN).trans (hb1.mono (uh hbN).size)
  clear hb1 hbN HPN HFL
  cases mb
  ·go_upto_region 7 with fail
   go_step
   refine wpList_load_mid rfl 30 _ rfl w.heap.size 0 rfl (pk0 3 (btest b 8) (b / 2 % 4) (btest b 1)).cells _ (uh HP1).range Tryz.underlying30 rfl packet_size ?_
   simp only [Act.put,List.setIfInBounds_toArray,List.set_cons_zero,List.set_cons_succ]
   ((iterate 6 go_step); go_skip; (iterate 3 go_step))
   refine wpList_store_mid rfl 30 _ _ rfl w.heap.size 0 (pk0 3 (btest b 8) (b / 2 % 4) (btest b 1)).cells.toArray rfl rfl ((uh HP1).there _) packet_size (Pkv.ones' _) ?_
   simp only [Act.put]
   have HPS := zh ((uh HP1).stored (pk0 3 (btest b 8) (b / 2 % 4) (btest b 1)))
   have HBS : Hid (Below w.heap.size w (w1.setCells w.heap.size 0 (pk0 3 (btest b 8) (b / 2 % 4) (btest b 1)).cells)) := setCells_below (uh HB1) (Nat.le_refl _)
   generalize w1.setCells w.heap.size 0 (pk0 3 (btest b 8) (b / 2 % 4) (btest b 1)).cells = w2 at HPS HBS |-
   go_wp2
   refine bodyPost_ret (res_pk2 (B := w.heap.size) (q := (pk0 3 (btest b 8) (b / 2 % 4) (btest b 1))) rfl rfl (uh HPS)) rfl ?_
   exact ⟨by rw [uh HOK,uh HE]; rfl,uh HBS⟩
  ·go_upto_region 7 with fail
   go_step
   refine wpList_load_mid rfl 30 _ rfl w.heap.size 0 rfl (pk0 3 (btest b 8) (b / 2 % 4) (btest b 1)).cells _ (uh HP1).range Tryz.underlying30 rfl packet_size ?_
   simp only [Act.put,List.setIfInBounds_toArray,List.set_cons_zero,List.set_cons_succ]
   iterate 15 go_step
   refine wpList_store_mid rfl 30 _ _ rfl w.heap.size 0 (pk0 3 (btest b 8) (b / 2 % 4) (btest b 1)).cells.toArray rfl rfl ((uh HP1).there _) packet_size (Pkv.ones' _) ?_
   simp only [Act.put]
   have HPS := zh ((uh HP1).stored (pk0 3 (btest b 8) (b / 2 % 4) (btest b 1)))
   have HBS : Hid (Below w.heap.size w (w1.setCells w.heap.size 0 (pk0 3 (btest b 8) (b / 2 % 4) (btest b 1)).cells)) := setCells_below (uh HB1) (Nat.le_refl _)
   generalize w1.setCells w.heap.size 0 (pk0 3 (btest b 8) (b / 2 % 4) (btest b 1)).cells = w2 at HPS HBS |-
   go_wp2
   refine bodyPost_ret (res_pk2 (B := w.heap.size) (q := (pk0 3 (btest b 8) (b / 2 % 4) (btest b 1))) rfl rfl (uh HPS)) rfl ?_
   exact ⟨by rw [uh HOK,uh HE]; rfl,uh HBS⟩
 ·have e1 : bpk b = pk0 (b / 16) false 0 false := if_neg h3
  have HE := zh e1
  clear e1
  have HPN := zh (pk_new w (pk0 (b / 16) false 0 false))
  have hbN : Hid (Below w.heap.size w (w.alloc (.cells (pk0 (b / 16) false 0 false).cells.toArray 30))) := bal _ _
  have HFL : Hid (∀ W : World,Calls Tryz.prog 22 #[.agg (pk0 (b / 16) false 0 false).cells.toArray] W fun e w' => e = .returned (.tuple #[.int .i64 (bfl b),.bool (bmay b)]) /\ Below W.heap.size W w') := fun W => by
   have k := flagsOf_b b W
   rw [uh HE] at k
   exact k
  have HR : Hid (∀ mb fl,bmay b = mb -> bfl b = fl -> bok b = (mb && (fl == b % 16))) := fun mb fl e1 e2 => by rw [<- e1,<- e2]; rfl
  generalize hfl : bfl b = fl at HFL
  generalize hmb : bmay b = mb at HFL
  have HOK := zh ((uh HR) mb fl hmb hfl)
  clear hfl hmb HR
  go_enter Tryz.func37,Tryz.ntmps37
  go_upto_region 6 with fail
  go_step
  refine wpList_load_mid rfl 30 _ rfl w.heap.size 0 rfl (pk0 (b / 16) false 0 false).cells _ (uh HPN).range Tryz.underlying30 rfl packet_size ?_
  simp only [Act.put,List.setIfInBounds_toArray,List.set_cons_zero,List.set_cons_succ]
  go_wp2_with fail
  refine ((uh HFL) _).mono ?_
  rintro e w1 ⟨rfl,hb1⟩
  have HP1 := zh ((uh HPN).below hb1)
  have HB1 : Hid (Below w.heap.size w w1) := (uh hbN).trans (hb1.mono (uh hbN).size)
  clear hb1 hbN HPN HFL
  cases mb
  ·go_upto_region 7 with fail
   go_step
   refine wpList_load_mid rfl 30 _ rfl w.heap.size 0 rfl (pk0 (b / 16) false 0 false).cells _ (uh HP1).range Tryz.underlying30 rfl packet_size ?_
   simp only [Act.put,List.setIfInBounds_toArray,List.set_cons_zero,List.set_cons_succ]
   ((iterate 6 go_step); go_skip; (iterate 3 go_step))
   refine wpList_store_mid rfl 30 _ _ rfl w.heap.size 0 (pk0 (b / 16) false 0 false).cells.toArray rfl rfl ((uh HP1).there _) packet_size (Pkv.ones' _) ?_
   simp only [Act.put]
   have HPS := zh ((uh HP1).stored (pk0 (b / 16) false 0 false))
   have HBS : Hid (Below w.heap.size w (w1.setCells w.heap.size 0 (pk0 (b / 16) false 0 false).cells)) := setCells_below (uh HB1) (Nat.le_refl _)
   generalize w1.setCells w.heap.size 0 (pk0 (b / 16) false 0 false).cells = w2 at HPS HBS |-
   go_wp2
   refine bodyPost_ret (res_pk2 (B := w.heap.size) (q := (pk0 (b / 16) false 0 false)) rfl rfl (uh HPS)) rfl ?_
   exact ⟨by rw [uh HOK,uh HE]; rfl,uh HBS⟩
  ·go_upto_region 7 with fail
   go_step
   refine wpList_load_mid rfl 30 _ rfl w.heap.size 0 rfl (pk0 (b / 16) false 0 false).cells _ (uh HP1).range Tryz.underlying30 rfl packet_size ?_
   simp only [Act.put,List.setIfInBounds_toArray,List.set_cons_zero,List.set_cons_succ]
   iterate 15 go_step
   refine wpList_store_mid rfl 30 _ _ rfl w.heap.size 0 (pk0 (b / 16) false 0 false).cells.toArray rfl rfl ((uh HP1).there _) packet_size (Pkv.ones' _) ?_
   simp only [Act.put]
   have HPS := zh ((uh HP1).stored (pk0 (b / 16) false 0 false))
   have HBS : Hid (Below w.heap.size w (w1.setCells w.heap.size 0 (pk0 (b / 16) false 0 false).cells)) := setCells_below (uh HB1) (Nat.le_refl _)
   generalize w1.setCells w.heap.size 0 (pk0 (b / 16) false 0 false).cells = w2 at HPS HBS |-
   go_wp2
   refine bodyPost_ret (res_pk2 (B := w.heap.size) (q := (pk0 (b / 16) false 0 false)) rfl rfl (uh HPS)) rfl ?_
   exact ⟨by rw [uh HOK,uh HE]; rfl,uh HBS⟩
def PackPost (w0 : World) (R : Nat) (P : Pa) (st : Option (List Int)) (w : World) (e : Ending) (w' : World) : Prop :=
 e = .returned (.tuple #[]) /\ ∃ (p' : Pkv) (P' : Pa) (st' : Option (List Int)),Pk w' R p' /\ Hid (Mean w' w.heap.size p' P') /\ Stp (packet? P) st P' st' /\ RS w0 w' R st' /\ BX R isAny w w'
theorem Mean.bx {w w' : World} {R B : Nat} {may : Nat -> Prop} {p : Pkv} {P : Pa} (h : Mean w B p P) (hx : BX R may w w') (hR : R < B) : Mean w' B p P :=
 ⟨h.sc,owns_bx h.props hx hR,by
  obtain ⟨ws,h1,h2,h3⟩ := h.wills
  exact ⟨ws,owns_bx h1 hx hR,h2,fun i a b ha hb => by
   obtain ⟨k1,k2,k3,k4,k5⟩ := h3 i a b ha hb
   exact ⟨k1,k2,k3,k4,owns_bx k5 hx hR⟩⟩,owns_bx h.user hx hR,owns_bx h.pass hx hR,owns_bx h.subs hx hR,owns_bx h.filters hx hR,owns_bx h.codes hx hR⟩
theorem packet_stp {P P' : Pa} {st st1 st2 : Option (List Int)} (h : Stp (body? P) st P' st1) (h2 : Stp endR st1 () st2) : Stp (packet? P) st P' st2 := h.bind (h2.bind (Stp.pure _ _))
theorem stp_le {α : Type} {f : List Int -> Option (α × List Int)} (hf : ∀ l x l',f l = some (x,l') -> l'.length <= l.length) {st : Option (List Int)} {l' : List Int} {x : α} (h : Stp f st x (some l')) : ∃ l,st = some l /\ l'.length <= l.length := by
 cases st with
 | none => cases h
 | some l =>
  unfold Stp at h
  simp only at h
  cases hq : f l with
  | none => rw [hq] at h; cases h
  | some r =>
   obtain ⟨y,l2⟩ := r
   rw [hq] at h
   obtain ⟨_,e⟩ := h
   cases e
   exact ⟨l,rfl,hf l y l' hq⟩
theorem stp_le2 {α β : Type} {f : List Int -> Option (α × List Int)} {g : List Int -> Option (β × List Int)} (hf : ∀ l x l',f l = some (x,l') -> l'.length <= l.length) (hg : ∀ l x l',g l = some (x,l') -> l'.length <= l.length) {st st1 : Option (List Int)} {l' : List Int} {x : α} {y : β} (h : Stp f st x st1) (h2 : Stp g st1 y (some l')) (hl : ∀ l,st = some l -> l.length <= 65536) : l'.length <= 65536 := by
 obtain ⟨l1,rfl,k1⟩ := stp_le hg h2
 obtain ⟨l0,rfl,k0⟩ := stp_le hf h
 have := hl l0 rfl
 omega
theorem id?_le (l : List Int) (x : Int) (l' : List Int) (h : id? l = some (x,l')) : l'.length <= l.length := by
 unfold id? at h
 match l,h with
 | [],h => cases h
 | [a],h => cases h
 | a :: b :: t,h =>
  simp only [two?] at h
  split at h
  ·cases h
  ·simp at h
   obtain ⟨_,rfl⟩ := h
   simp
   omega
theorem props?_le (place : Int) (l : List Int) (x : List Pr) (l' : List Int) (h : props? place l = some (x,l')) : l'.length <= l.length := by
 unfold props? at h
 split at h
 ·simp at h
  obtain ⟨_,rfl⟩ := h
  rw [List.length_drop]
  omega
 ·cases h
theorem packet_k12 (R : Nat) (st : Option (List Int)) (w0 w : World) (h : RS w0 w R st) (hp : Pk w R (pk0 12 false 0 false)) (hl : ∀ l,st = some l -> l.length <= 65536) : Calls Tryz.prog 39 #[.pointer (some ⟨R,0,none⟩)] w (PackPost w0 R (pa0 12 false 0 false) st w) := by
 have hlt := h.lt
 have c0 := hp.kind
 have HP := zh hp
 have HS := zh h
 have HL := zh hl
 clear hp h hl
 simp only [pk0] at c0
 go_enter Tryz.func39,Tryz.ntmps39
 have HS1 := HS
 have HP1 := HP
 have HX1 : Hid (BX R isAny w w) := BX.refl _ _ _
 obtain ⟨ao,n,cap,c19,⟨g1,g2⟩,gl⟩ := (uh HS1).rest
 unfold maxLen at g2
 have GL := zh gl
 clear gl
 have HM : Hid (Mean w w.heap.size (pk0 12 false 0 false) (pa0 12 false 0 false)) := ⟨⟨rfl,rfl,rfl,rfl,rfl,rfl,rfl,rfl,rfl,rfl,rfl,rfl⟩,row0 _ _ _ _,wills0 _ _,row0 _ _ _ _,row0 _ _ _ _,row0 _ _ _ _,row0 _ _ _ _,row0 _ _ _ _⟩
 have hbz : ((n : Int) == 0) = decide (n = 0) := by by_cases h : n = 0 <;> simp [h]
 go_wp2_with fail
 refine (must_any R _ st w0 _ (uh HS1)).mono ?_
 rintro e wz ⟨rfl,hz,hxz⟩
 have HZ := zh hz
 have HXZ := zh hxz
 clear hz hxz
 go_wp2
 go_end0
 have hBY : Stp (body? (pa0 12 false 0 false)) st (pa0 12 false 0 false) st := by
  exact (Stp.pure (pa0 12 false 0 false) st)
 exact ⟨rfl,(pk0 12 false 0 false),(pa0 12 false 0 false),_,(uh HP1).bx (uh HXZ),(uh HM).bx (uh HXZ) hlt,packet_stp hBY (stp_end (uh GL) _ (by first | exact hbz | rfl | simp)),uh HZ,(uh HX1).trans (uh HXZ).any⟩
theorem packet_k13 (R : Nat) (st : Option (List Int)) (w0 w : World) (h : RS w0 w R st) (hp : Pk w R (pk0 13 false 0 false)) (hl : ∀ l,st = some l -> l.length <= 65536) : Calls Tryz.prog 39 #[.pointer (some ⟨R,0,none⟩)] w (PackPost w0 R (pa0 13 false 0 false) st w) := by
 have hlt := h.lt
 have c0 := hp.kind
 have HP := zh hp
 have HS := zh h
 have HL := zh hl
 clear hp h hl
 simp only [pk0] at c0
 go_enter Tryz.func39,Tryz.ntmps39
 have HS1 := HS
 have HP1 := HP
 have HX1 : Hid (BX R isAny w w) := BX.refl _ _ _
 obtain ⟨ao,n,cap,c19,⟨g1,g2⟩,gl⟩ := (uh HS1).rest
 unfold maxLen at g2
 have GL := zh gl
 clear gl
 have HM : Hid (Mean w w.heap.size (pk0 13 false 0 false) (pa0 13 false 0 false)) := ⟨⟨rfl,rfl,rfl,rfl,rfl,rfl,rfl,rfl,rfl,rfl,rfl,rfl⟩,row0 _ _ _ _,wills0 _ _,row0 _ _ _ _,row0 _ _ _ _,row0 _ _ _ _,row0 _ _ _ _,row0 _ _ _ _⟩
 have hbz : ((n : Int) == 0) = decide (n = 0) := by by_cases h : n = 0 <;> simp [h]
 go_wp2_with fail
 refine (must_any R _ st w0 _ (uh HS1)).mono ?_
 rintro e wz ⟨rfl,hz,hxz⟩
 have HZ := zh hz
 have HXZ := zh hxz
 clear hz hxz
 go_wp2
 go_end0
 have hBY : Stp (body? (pa0 13 false 0 false)) st (pa0 13 false 0 false) st := by
  exact (Stp.pure (pa0 13 false 0 false) st)
 exact ⟨rfl,(pk0 13 false 0 false),(pa0 13 false 0 false),_,(uh HP1).bx (uh HXZ),(uh HM).bx (uh HXZ) hlt,packet_stp hBY (stp_end (uh GL) _ (by first | exact hbz | rfl | simp)),uh HZ,(uh HX1).trans (uh HXZ).any⟩
theorem packet_k4 (R : Nat) (st : Option (List Int)) (w0 w : World) (h : RS w0 w R st) (hp : Pk w R (pk0 4 false 0 false)) (hl : ∀ l,st = some l -> l.length <= 65536) : Calls Tryz.prog 39 #[.pointer (some ⟨R,0,none⟩)] w (PackPost w0 R (pa0 4 false 0 false) st w) := by
 have hlt := h.lt
 have c0 := hp.kind
 have HP := zh hp
 have HS := zh h
 have HL := zh hl
 clear hp h hl
 simp only [pk0] at c0
 go_enter Tryz.func39,Tryz.ntmps39
 go_wp2_with fail
 refine (id_any R st w0 w (uh HS)).mono ?_
 rintro e w1 ⟨i,st1,rfl,-,hs1,h1,hx1⟩
 have hp1 := (uh HP).bx hx1
 have c5 := hp1.id
 have f5 := hp1.id_f
 have HP1 := zh (hp1.set_id i)
 have HS1 := zh (h1.set 5 (.int .i64 i) (by decide))
 have HX1 := zh ((hx1.any).set 5 (.int .i64 i) trivial)
 have HST1 := zh hs1
 clear hp1 h1 hx1 hs1
 go_wp2_with fail
 refine (reason_any R { (pk0 4 false 0 false) with id := i } st1 w0 _ (uh HS1) (uh HP1) rfl rfl).mono ?_
 rintro e w2 ⟨rfl,c,t,x,st2,hp2,hO2,hs2,h2,hx2⟩
 have HP2 := zh hp2
 have HS2 := zh h2
 have HX2 := zh ((uh HX1).trans hx2)
 have HST2 : Hid (Stp (reason? 4) st1 (c,x) st2) := hs2
 have HO2 : Hid (w2.ownsRow w.heap.size 83 4 t.val x.length (pcs x)) := owns_mono (uh hO2) (uh HX1).size
 clear hp2 h2 hx2 hs2 hO2
 obtain ⟨ao,n,cap,c19,⟨g1,g2⟩,gl⟩ := (uh HS2).rest
 unfold maxLen at g2
 have GL := zh gl
 clear gl
 have HM : Hid (Mean w2 w.heap.size { (pk0 4 false 0 false) with id := i,code := c,props := t } { (pa0 4 false 0 false) with id := i,code := c,props := x }) := ⟨⟨rfl,rfl,rfl,rfl,rfl,rfl,rfl,rfl,rfl,rfl,rfl,rfl⟩,uh HO2,wills0 _ _,row0 _ _ _ _,row0 _ _ _ _,row0 _ _ _ _,row0 _ _ _ _,row0 _ _ _ _⟩
 have hbz : ((n : Int) == 0) = decide (n = 0) := by by_cases h : n = 0 <;> simp [h]
 go_wp2_with fail
 refine (must_any R _ st2 w0 _ (uh HS2)).mono ?_
 rintro e wz ⟨rfl,hz,hxz⟩
 have HZ := zh hz
 have HXZ := zh hxz
 clear hz hxz
 go_wp2
 go_end0
 have hBY : Stp (body? (pa0 4 false 0 false)) st { (pa0 4 false 0 false) with id := i,code := c,props := x } st2 := by
  show Stp (bindR id? fun i => bindR (reason? 4) fun r => pureR { (pa0 4 false 0 false) with id := i,code := r.1,props := r.2 }) st { (pa0 4 false 0 false) with id := i,code := c,props := x } st2
  exact (uh HST1).bind ((uh HST2).bind (Stp.pure _ _))
 exact ⟨rfl,{ (pk0 4 false 0 false) with id := i,code := c,props := t },{ (pa0 4 false 0 false) with id := i,code := c,props := x },_,(uh HP2).bx (uh HXZ),(uh HM).bx (uh HXZ) hlt,packet_stp hBY (stp_end (uh GL) _ (by first | exact hbz | rfl | simp)),uh HZ,(uh HX2).trans (uh HXZ).any⟩
theorem packet_k5 (R : Nat) (st : Option (List Int)) (w0 w : World) (h : RS w0 w R st) (hp : Pk w R (pk0 5 false 0 false)) (hl : ∀ l,st = some l -> l.length <= 65536) : Calls Tryz.prog 39 #[.pointer (some ⟨R,0,none⟩)] w (PackPost w0 R (pa0 5 false 0 false) st w) := by
 have hlt := h.lt
 have c0 := hp.kind
 have HP := zh hp
 have HS := zh h
 have HL := zh hl
 clear hp h hl
 simp only [pk0] at c0
 go_enter Tryz.func39,Tryz.ntmps39
 go_wp2_with fail
 refine (id_any R st w0 w (uh HS)).mono ?_
 rintro e w1 ⟨i,st1,rfl,-,hs1,h1,hx1⟩
 have hp1 := (uh HP).bx hx1
 have c5 := hp1.id
 have f5 := hp1.id_f
 have HP1 := zh (hp1.set_id i)
 have HS1 := zh (h1.set 5 (.int .i64 i) (by decide))
 have HX1 := zh ((hx1.any).set 5 (.int .i64 i) trivial)
 have HST1 := zh hs1
 clear hp1 h1 hx1 hs1
 go_wp2_with fail
 refine (reason_any R { (pk0 5 false 0 false) with id := i } st1 w0 _ (uh HS1) (uh HP1) rfl rfl).mono ?_
 rintro e w2 ⟨rfl,c,t,x,st2,hp2,hO2,hs2,h2,hx2⟩
 have HP2 := zh hp2
 have HS2 := zh h2
 have HX2 := zh ((uh HX1).trans hx2)
 have HST2 : Hid (Stp (reason? 5) st1 (c,x) st2) := hs2
 have HO2 : Hid (w2.ownsRow w.heap.size 83 4 t.val x.length (pcs x)) := owns_mono (uh hO2) (uh HX1).size
 clear hp2 h2 hx2 hs2 hO2
 obtain ⟨ao,n,cap,c19,⟨g1,g2⟩,gl⟩ := (uh HS2).rest
 unfold maxLen at g2
 have GL := zh gl
 clear gl
 have HM : Hid (Mean w2 w.heap.size { (pk0 5 false 0 false) with id := i,code := c,props := t } { (pa0 5 false 0 false) with id := i,code := c,props := x }) := ⟨⟨rfl,rfl,rfl,rfl,rfl,rfl,rfl,rfl,rfl,rfl,rfl,rfl⟩,uh HO2,wills0 _ _,row0 _ _ _ _,row0 _ _ _ _,row0 _ _ _ _,row0 _ _ _ _,row0 _ _ _ _⟩
 have hbz : ((n : Int) == 0) = decide (n = 0) := by by_cases h : n = 0 <;> simp [h]
 go_wp2_with fail
 refine (must_any R _ st2 w0 _ (uh HS2)).mono ?_
 rintro e wz ⟨rfl,hz,hxz⟩
 have HZ := zh hz
 have HXZ := zh hxz
 clear hz hxz
 go_wp2
 go_end0
 have hBY : Stp (body? (pa0 5 false 0 false)) st { (pa0 5 false 0 false) with id := i,code := c,props := x } st2 := by
  show Stp (bindR id? fun i => bindR (reason? 5) fun r => pureR { (pa0 5 false 0 false) with id := i,code := r.1,props := r.2 }) st { (pa0 5 false 0 false) with id := i,code := c,props := x } st2
  exact (uh HST1).bind ((uh HST2).bind (Stp.pure _ _))
 exact ⟨rfl,{ (pk0 5 false 0 false) with id := i,code := c,props := t },{ (pa0 5 false 0 false) with id := i,code := c,props := x },_,(uh HP2).bx (uh HXZ),(uh HM).bx (uh HXZ) hlt,packet_stp hBY (stp_end (uh GL) _ (by first | exact hbz | rfl | simp)),uh HZ,(uh HX2).trans (uh HXZ).any⟩
theorem packet_k6 (R : Nat) (st : Option (List Int)) (w0 w : World) (h : RS w0 w R st) (hp : Pk w R (pk0 6 false 0 false)) (hl : ∀ l,st = some l -> l.length <= 65536) : Calls Tryz.prog 39 #[.pointer (some ⟨R,0,none⟩)] w (PackPost w0 R (pa0 6 false 0 false) st w) := by
 have hlt := h.lt
 have c0 := hp.kind
 have HP := zh hp
 have HS := zh h
 have HL := zh hl
 clear hp h hl
 simp only [pk0] at c0
 go_enter Tryz.func39,Tryz.ntmps39
 go_wp2_with fail
 refine (id_any R st w0 w (uh HS)).mono ?_
 rintro e w1 ⟨i,st1,rfl,-,hs1,h1,hx1⟩
 have hp1 := (uh HP).bx hx1
 have c5 := hp1.id
 have f5 := hp1.id_f
 have HP1 := zh (hp1.set_id i)
 have HS1 := zh (h1.set 5 (.int .i64 i) (by decide))
 have HX1 := zh ((hx1.any).set 5 (.int .i64 i) trivial)
 have HST1 := zh hs1
 clear hp1 h1 hx1 hs1
 go_wp2_with fail
 refine (reason_any R { (pk0 6 false 0 false) with id := i } st1 w0 _ (uh HS1) (uh HP1) rfl rfl).mono ?_
 rintro e w2 ⟨rfl,c,t,x,st2,hp2,hO2,hs2,h2,hx2⟩
 have HP2 := zh hp2
 have HS2 := zh h2
 have HX2 := zh ((uh HX1).trans hx2)
 have HST2 : Hid (Stp (reason? 6) st1 (c,x) st2) := hs2
 have HO2 : Hid (w2.ownsRow w.heap.size 83 4 t.val x.length (pcs x)) := owns_mono (uh hO2) (uh HX1).size
 clear hp2 h2 hx2 hs2 hO2
 obtain ⟨ao,n,cap,c19,⟨g1,g2⟩,gl⟩ := (uh HS2).rest
 unfold maxLen at g2
 have GL := zh gl
 clear gl
 have HM : Hid (Mean w2 w.heap.size { (pk0 6 false 0 false) with id := i,code := c,props := t } { (pa0 6 false 0 false) with id := i,code := c,props := x }) := ⟨⟨rfl,rfl,rfl,rfl,rfl,rfl,rfl,rfl,rfl,rfl,rfl,rfl⟩,uh HO2,wills0 _ _,row0 _ _ _ _,row0 _ _ _ _,row0 _ _ _ _,row0 _ _ _ _,row0 _ _ _ _⟩
 have hbz : ((n : Int) == 0) = decide (n = 0) := by by_cases h : n = 0 <;> simp [h]
 go_wp2_with fail
 refine (must_any R _ st2 w0 _ (uh HS2)).mono ?_
 rintro e wz ⟨rfl,hz,hxz⟩
 have HZ := zh hz
 have HXZ := zh hxz
 clear hz hxz
 go_wp2
 go_end0
 have hBY : Stp (body? (pa0 6 false 0 false)) st { (pa0 6 false 0 false) with id := i,code := c,props := x } st2 := by
  show Stp (bindR id? fun i => bindR (reason? 6) fun r => pureR { (pa0 6 false 0 false) with id := i,code := r.1,props := r.2 }) st { (pa0 6 false 0 false) with id := i,code := c,props := x } st2
  exact (uh HST1).bind ((uh HST2).bind (Stp.pure _ _))
 exact ⟨rfl,{ (pk0 6 false 0 false) with id := i,code := c,props := t },{ (pa0 6 false 0 false) with id := i,code := c,props := x },_,(uh HP2).bx (uh HXZ),(uh HM).bx (uh HXZ) hlt,packet_stp hBY (stp_end (uh GL) _ (by first | exact hbz | rfl | simp)),uh HZ,(uh HX2).trans (uh HXZ).any⟩
theorem packet_k7 (R : Nat) (st : Option (List Int)) (w0 w : World) (h : RS w0 w R st) (hp : Pk w R (pk0 7 false 0 false)) (hl : ∀ l,st = some l -> l.length <= 65536) : Calls Tryz.prog 39 #[.pointer (some ⟨R,0,none⟩)] w (PackPost w0 R (pa0 7 false 0 false) st w) := by
 have hlt := h.lt
 have c0 := hp.kind
 have HP := zh hp
 have HS := zh h
 have HL := zh hl
 clear hp h hl
 simp only [pk0] at c0
 go_enter Tryz.func39,Tryz.ntmps39
 go_wp2_with fail
 refine (id_any R st w0 w (uh HS)).mono ?_
 rintro e w1 ⟨i,st1,rfl,-,hs1,h1,hx1⟩
 have hp1 := (uh HP).bx hx1
 have c5 := hp1.id
 have f5 := hp1.id_f
 have HP1 := zh (hp1.set_id i)
 have HS1 := zh (h1.set 5 (.int .i64 i) (by decide))
 have HX1 := zh ((hx1.any).set 5 (.int .i64 i) trivial)
 have HST1 := zh hs1
 clear hp1 h1 hx1 hs1
 go_wp2_with fail
 refine (reason_any R { (pk0 7 false 0 false) with id := i } st1 w0 _ (uh HS1) (uh HP1) rfl rfl).mono ?_
 rintro e w2 ⟨rfl,c,t,x,st2,hp2,hO2,hs2,h2,hx2⟩
 have HP2 := zh hp2
 have HS2 := zh h2
 have HX2 := zh ((uh HX1).trans hx2)
 have HST2 : Hid (Stp (reason? 7) st1 (c,x) st2) := hs2
 have HO2 : Hid (w2.ownsRow w.heap.size 83 4 t.val x.length (pcs x)) := owns_mono (uh hO2) (uh HX1).size
 clear hp2 h2 hx2 hs2 hO2
 obtain ⟨ao,n,cap,c19,⟨g1,g2⟩,gl⟩ := (uh HS2).rest
 unfold maxLen at g2
 have GL := zh gl
 clear gl
 have HM : Hid (Mean w2 w.heap.size { (pk0 7 false 0 false) with id := i,code := c,props := t } { (pa0 7 false 0 false) with id := i,code := c,props := x }) := ⟨⟨rfl,rfl,rfl,rfl,rfl,rfl,rfl,rfl,rfl,rfl,rfl,rfl⟩,uh HO2,wills0 _ _,row0 _ _ _ _,row0 _ _ _ _,row0 _ _ _ _,row0 _ _ _ _,row0 _ _ _ _⟩
 have hbz : ((n : Int) == 0) = decide (n = 0) := by by_cases h : n = 0 <;> simp [h]
 go_wp2_with fail
 refine (must_any R _ st2 w0 _ (uh HS2)).mono ?_
 rintro e wz ⟨rfl,hz,hxz⟩
 have HZ := zh hz
 have HXZ := zh hxz
 clear hz hxz
 go_wp2
 go_end0
 have hBY : Stp (body? (pa0 7 false 0 false)) st { (pa0 7 false 0 false) with id := i,code := c,props := x } st2 := by
  show Stp (bindR id? fun i => bindR (reason? 7) fun r => pureR { (pa0 7 false 0 false) with id := i,code := r.1,props := r.2 }) st { (pa0 7 false 0 false) with id := i,code := c,props := x } st2
  exact (uh HST1).bind ((uh HST2).bind (Stp.pure _ _))
 exact ⟨rfl,{ (pk0 7 false 0 false) with id := i,code := c,props := t },{ (pa0 7 false 0 false) with id := i,code := c,props := x },_,(uh HP2).bx (uh HXZ),(uh HM).bx (uh HXZ) hlt,packet_stp hBY (stp_end (uh GL) _ (by first | exact hbz | rfl | simp)),uh HZ,(uh HX2).trans (uh HXZ).any⟩
theorem packet_k14 (R : Nat) (st : Option (List Int)) (w0 w : World) (h : RS w0 w R st) (hp : Pk w R (pk0 14 false 0 false)) (hl : ∀ l,st = some l -> l.length <= 65536) : Calls Tryz.prog 39 #[.pointer (some ⟨R,0,none⟩)] w (PackPost w0 R (pa0 14 false 0 false) st w) := by
 have hlt := h.lt
 have c0 := hp.kind
 have HP := zh hp
 have HS := zh h
 have HL := zh hl
 clear hp h hl
 simp only [pk0] at c0
 go_enter Tryz.func39,Tryz.ntmps39
 have HP1 := HP
 have HS1 := HS
 have HX1 : Hid (BX R isAny w w) := BX.refl _ _ _
 go_wp2_with fail
 refine (reason_any R (pk0 14 false 0 false) st w0 _ (uh HS1) (uh HP1) rfl rfl).mono ?_
 rintro e w2 ⟨rfl,c,t,x,st2,hp2,hO2,hs2,h2,hx2⟩
 have HP2 := zh hp2
 have HS2 := zh h2
 have HX2 := zh ((uh HX1).trans hx2)
 have HST2 : Hid (Stp (reason? 14) st (c,x) st2) := hs2
 have HO2 : Hid (w2.ownsRow w.heap.size 83 4 t.val x.length (pcs x)) := owns_mono (uh hO2) (uh HX1).size
 clear hp2 h2 hx2 hs2 hO2
 obtain ⟨ao,n,cap,c19,⟨g1,g2⟩,gl⟩ := (uh HS2).rest
 unfold maxLen at g2
 have GL := zh gl
 clear gl
 have HM : Hid (Mean w2 w.heap.size { (pk0 14 false 0 false) with code := c,props := t } { (pa0 14 false 0 false) with code := c,props := x }) := ⟨⟨rfl,rfl,rfl,rfl,rfl,rfl,rfl,rfl,rfl,rfl,rfl,rfl⟩,uh HO2,wills0 _ _,row0 _ _ _ _,row0 _ _ _ _,row0 _ _ _ _,row0 _ _ _ _,row0 _ _ _ _⟩
 have hbz : ((n : Int) == 0) = decide (n = 0) := by by_cases h : n = 0 <;> simp [h]
 go_wp2_with fail
 refine (must_any R _ st2 w0 _ (uh HS2)).mono ?_
 rintro e wz ⟨rfl,hz,hxz⟩
 have HZ := zh hz
 have HXZ := zh hxz
 clear hz hxz
 go_wp2
 go_end0
 have hBY : Stp (body? (pa0 14 false 0 false)) st { (pa0 14 false 0 false) with code := c,props := x } st2 := by
  show Stp (bindR (reason? 14) fun r => pureR { (pa0 14 false 0 false) with code := r.1,props := r.2 }) st { (pa0 14 false 0 false) with code := c,props := x } st2
  exact (uh HST2).bind (Stp.pure _ _)
 exact ⟨rfl,{ (pk0 14 false 0 false) with code := c,props := t },{ (pa0 14 false 0 false) with code := c,props := x },_,(uh HP2).bx (uh HXZ),(uh HM).bx (uh HXZ) hlt,packet_stp hBY (stp_end (uh GL) _ (by first | exact hbz | rfl | simp)),uh HZ,(uh HX2).trans (uh HXZ).any⟩
theorem packet_k15 (R : Nat) (st : Option (List Int)) (w0 w : World) (h : RS w0 w R st) (hp : Pk w R (pk0 15 false 0 false)) (hl : ∀ l,st = some l -> l.length <= 65536) : Calls Tryz.prog 39 #[.pointer (some ⟨R,0,none⟩)] w (PackPost w0 R (pa0 15 false 0 false) st w) := by
 have hlt := h.lt
 have c0 := hp.kind
 have HP := zh hp
 have HS := zh h
 have HL := zh hl
 clear hp h hl
 simp only [pk0] at c0
 go_enter Tryz.func39,Tryz.ntmps39
 have HP1 := HP
 have HS1 := HS
 have HX1 : Hid (BX R isAny w w) := BX.refl _ _ _
 go_wp2_with fail
 refine (reason_any R (pk0 15 false 0 false) st w0 _ (uh HS1) (uh HP1) rfl rfl).mono ?_
 rintro e w2 ⟨rfl,c,t,x,st2,hp2,hO2,hs2,h2,hx2⟩
 have HP2 := zh hp2
 have HS2 := zh h2
 have HX2 := zh ((uh HX1).trans hx2)
 have HST2 : Hid (Stp (reason? 15) st (c,x) st2) := hs2
 have HO2 : Hid (w2.ownsRow w.heap.size 83 4 t.val x.length (pcs x)) := owns_mono (uh hO2) (uh HX1).size
 clear hp2 h2 hx2 hs2 hO2
 obtain ⟨ao,n,cap,c19,⟨g1,g2⟩,gl⟩ := (uh HS2).rest
 unfold maxLen at g2
 have GL := zh gl
 clear gl
 have HM : Hid (Mean w2 w.heap.size { (pk0 15 false 0 false) with code := c,props := t } { (pa0 15 false 0 false) with code := c,props := x }) := ⟨⟨rfl,rfl,rfl,rfl,rfl,rfl,rfl,rfl,rfl,rfl,rfl,rfl⟩,uh HO2,wills0 _ _,row0 _ _ _ _,row0 _ _ _ _,row0 _ _ _ _,row0 _ _ _ _,row0 _ _ _ _⟩
 have hbz : ((n : Int) == 0) = decide (n = 0) := by by_cases h : n = 0 <;> simp [h]
 go_wp2_with fail
 refine (must_any R _ st2 w0 _ (uh HS2)).mono ?_
 rintro e wz ⟨rfl,hz,hxz⟩
 have HZ := zh hz
 have HXZ := zh hxz
 clear hz hxz
 go_wp2
 go_end0
 have hBY : Stp (body? (pa0 15 false 0 false)) st { (pa0 15 false 0 false) with code := c,props := x } st2 := by
  show Stp (bindR (reason? 15) fun r => pureR { (pa0 15 false 0 false) with code := r.1,props := r.2 }) st { (pa0 15 false 0 false) with code := c,props := x } st2
  exact (uh HST2).bind (Stp.pure _ _)
 exact ⟨rfl,{ (pk0 15 false 0 false) with code := c,props := t },{ (pa0 15 false 0 false) with code := c,props := x },_,(uh HP2).bx (uh HXZ),(uh HM).bx (uh HXZ) hlt,packet_stp hBY (stp_end (uh GL) _ (by first | exact hbz | rfl | simp)),uh HZ,(uh HX2).trans (uh HXZ).any⟩
theorem packet_k3 (R : Nat) (dup : Bool) (qos : Int) (retain : Bool) (st : Option (List Int)) (w0 w : World) (h : RS w0 w R st) (hp : Pk w R (pk0 3 dup qos retain)) (hl : ∀ l,st = some l -> l.length <= 65536) : Calls Tryz.prog 39 #[.pointer (some ⟨R,0,none⟩)] w (PackPost w0 R (pa0 3 dup qos retain) st w) := by
 have hlt := h.lt
 have c0 := hp.kind
 have HP := zh hp
 have HS := zh h
 have HL := zh hl
 clear hp h hl
 simp only [pk0] at c0
 go_enter Tryz.func39,Tryz.ntmps39
 go_wp2_with fail
 refine (publish_any R (pk0 3 dup qos retain) st w0 w (uh HS) (uh HP) rfl rfl).mono ?_
 rintro e w1 ⟨rfl,t,i,s,x,y,st1,hp1,hO1,hs1,h1,hx1⟩
 have HP1 := zh hp1
 have HS1 := zh h1
 have HX1 := zh hx1
 have HST1 : Hid (Stp (publish? qos) st (t,i,x,y) st1) := hs1
 clear hp1 h1 hx1 hs1
 obtain ⟨ao,n,cap,c19,⟨g1,g2⟩,gl⟩ := (uh HS1).rest
 unfold maxLen at g2
 have GL := zh gl
 clear gl
 have HM : Hid (Mean w1 w.heap.size { (pk0 3 dup qos retain) with topic := t,id := i,props := s,payload := y } { (pa0 3 dup qos retain) with topic := t,id := i,props := x,payload := y }) := ⟨⟨rfl,rfl,rfl,rfl,rfl,rfl,rfl,rfl,rfl,rfl,rfl,rfl⟩,uh hO1,wills0 _ _,row0 _ _ _ _,row0 _ _ _ _,row0 _ _ _ _,row0 _ _ _ _,row0 _ _ _ _⟩
 have hbz : ((n : Int) == 0) = decide (n = 0) := by by_cases h : n = 0 <;> simp [h]
 go_wp2_with fail
 refine (must_any R _ st1 w0 _ (uh HS1)).mono ?_
 rintro e wz ⟨rfl,hz,hxz⟩
 have HZ := zh hz
 have HXZ := zh hxz
 clear hz hxz
 go_wp2
 go_end0
 have hBY : Stp (body? (pa0 3 dup qos retain)) st { (pa0 3 dup qos retain) with topic := t,id := i,props := x,payload := y } st1 := by
  show Stp (bindR (publish? qos) fun r => pureR { (pa0 3 dup qos retain) with topic := r.1,id := r.2.1,props := r.2.2.1,payload := r.2.2.2 }) st { (pa0 3 dup qos retain) with topic := t,id := i,props := x,payload := y } st1
  exact (uh HST1).bind (Stp.pure _ _)
 exact ⟨rfl,{ (pk0 3 dup qos retain) with topic := t,id := i,props := s,payload := y },{ (pa0 3 dup qos retain) with topic := t,id := i,props := x,payload := y },_,(uh HP1).bx (uh HXZ),(uh HM).bx (uh HXZ) hlt,packet_stp hBY (stp_end (uh GL) _ (by first | exact hbz | rfl | simp)),uh HZ,(uh HX1).trans (uh HXZ).any⟩
theorem packet_k1 (R : Nat) (st : Option (List Int)) (w0 w : World) (h : RS w0 w R st) (hp : Pk w R (pk0 1 false 0 false)) (hl : ∀ l,st = some l -> l.length <= 65536) : Calls Tryz.prog 39 #[.pointer (some ⟨R,0,none⟩)] w (PackPost w0 R (pa0 1 false 0 false) st w) := by
 have hlt := h.lt
 have c0 := hp.kind
 have HP := zh hp
 have HS := zh h
 have HL := zh hl
 clear hp h hl
 simp only [pk0] at c0
 go_enter Tryz.func39,Tryz.ntmps39
 go_wp2_with fail
 refine (connect_any R (pk0 1 false 0 false) st w0 w (uh HS) (uh HP) rfl rfl rfl rfl).mono ?_
 rintro e w1 ⟨rfl,n0,V,U,Q,N,tp,st1,hp1,hO1,hN,hW,hU,hQ,hs1,h1,hx1⟩
 have HP1 := zh hp1
 have HS1 := zh h1
 have HX1 := zh hx1
 have HST1 := zh hs1
 clear hp1 h1 hx1 hs1
 obtain ⟨ao,n,cap,c19,⟨g1,g2⟩,gl⟩ := (uh HS1).rest
 unfold maxLen at g2
 have GL := zh gl
 clear gl
 have HM : Hid (Mean w1 w.heap.size { (pk0 1 false 0 false) with clean := btest n0.x 2,wills := isW V (btest n0.x 4),user := isW U (btest n0.x 128),pass := isW Q (btest n0.x 64),keep := n0.keep,props := tp,client := n0.client } (ofCn (pa0 1 false 0 false) n0)) := ⟨⟨rfl,rfl,rfl,rfl,rfl,rfl,rfl,rfl,rfl,rfl,rfl,rfl⟩,uh hO1,row_will (uh hW) hN,row_str (uh hU),row_str (uh hQ),row0 _ _ _ _,row0 _ _ _ _,row0 _ _ _ _⟩
 have hbz : ((n : Int) == 0) = decide (n = 0) := by by_cases h : n = 0 <;> simp [h]
 go_wp2_with fail
 refine (must_any R _ st1 w0 _ (uh HS1)).mono ?_
 rintro e wz ⟨rfl,hz,hxz⟩
 have HZ := zh hz
 have HXZ := zh hxz
 clear hz hxz
 go_wp2
 go_end0
 have hBY : Stp (body? (pa0 1 false 0 false)) st (ofCn (pa0 1 false 0 false) n0) st1 := by
  show Stp (bindR connect? fun n => pureR (ofCn (pa0 1 false 0 false) n)) st (ofCn (pa0 1 false 0 false) n0) st1
  exact (uh HST1).bind (Stp.pure _ _)
 exact ⟨rfl,{ (pk0 1 false 0 false) with clean := btest n0.x 2,wills := isW V (btest n0.x 4),user := isW U (btest n0.x 128),pass := isW Q (btest n0.x 64),keep := n0.keep,props := tp,client := n0.client },(ofCn (pa0 1 false 0 false) n0),_,(uh HP1).bx (uh HXZ),(uh HM).bx (uh HXZ) hlt,packet_stp hBY (stp_end (uh GL) _ (by first | exact hbz | rfl | simp)),uh HZ,(uh HX1).trans (uh HXZ).any⟩
theorem packet_k2 (R : Nat) (st : Option (List Int)) (w0 w : World) (h : RS w0 w R st) (hp : Pk w R (pk0 2 false 0 false)) (hl : ∀ l,st = some l -> l.length <= 65536) : Calls Tryz.prog 39 #[.pointer (some ⟨R,0,none⟩)] w (PackPost w0 R (pa0 2 false 0 false) st w) := by
 have hlt := h.lt
 have c0 := hp.kind
 have HP := zh hp
 have HS := zh h
 have HL := zh hl
 clear hp h hl
 simp only [pk0] at c0
 go_enter Tryz.func39,Tryz.ntmps39
 go_wp2_with fail
 refine (one_any R st w0 w (uh HS)).mono ?_
 rintro e w1 ⟨f,st1,rfl,hf,hs1,h1,hx1⟩
 have HP1 := zh ((uh HP).bx hx1)
 have HS1 := zh h1
 have HX1 := zh hx1
 have HST1 := zh hs1
 clear h1 hx1 hs1
 go_wp2_with fail
 refine (must_any R _ st1 w0 w1 (uh HS1)).mono ?_
 rintro e w2 ⟨rfl,h2,hx2⟩
 have hp2 := (uh HP1).bx hx2
 have c15 := hp2.session
 have f15 := hp2.session_f
 have HP2 := zh (hp2.set_session (f == 1))
 have HS2 := zh (h2.set 15 (.bool (f == 1)) (by decide))
 have HX2 := zh ((((uh HX1).trans hx2).any).set 15 (.bool (f == 1)) trivial)
 clear hp2 h2 hx2
 go_wp2_with fail
 refine (one_any R _ w0 _ (uh HS2)).mono ?_
 rintro e w3 ⟨c,st3,rfl,-,hs3,h3,hx3⟩
 have hp3 := (uh HP2).bx hx3
 have c14 := hp3.code
 have f14 := hp3.code_f
 have d0 : w3.cell? ⟨R,0,none⟩ = some (.int .i64 2) := hp3.kind
 have HP3 := zh (hp3.set_code c)
 have HS3 := zh (h3.set 14 (.int .i64 c) (by decide))
 have HX3 := zh (((uh HX2).trans hx3.any).set 14 (.int .i64 c) trivial)
 have HST3 := zh hs3
 clear hp3 h3 hx3 hs3 c15 f15
 go_wp2_with fail
 refine (props_any R 2 st3 w0 _ (uh HS3)).mono ?_
 rintro e w4 ⟨t,x,st4,rfl,hO4,hs4,h4,hx4⟩
 have hp4 := (uh HP3).bx hx4
 have c7 := hp4.props
 have f7 := hp4.props_f
 have HP4 := zh (hp4.set_props t)
 have HS4 := zh (h4.set 7 t.val (by decide))
 have HX4 := zh (((uh HX3).trans hx4.any).set 7 t.val trivial)
 have HST4 := zh hs4
 have HO4 : Hid ((w4.setCell ⟨R,7,none⟩ t.val).ownsRow w.heap.size 83 4 t.val x.length (pcs x)) := owns_bx (owns_mono (uh hO4) (uh HX3).size) ((BX.refl R isAny w4).set 7 _ trivial) hlt
 clear hp4 h4 hx4 hs4 hO4 c14 f14 d0
 obtain ⟨ao,n,cap,c19,⟨g1,g2⟩,gl⟩ := (uh HS4).rest
 unfold maxLen at g2
 have GL := zh gl
 clear gl
 have HM : Hid (Mean (w4.setCell ⟨R,7,none⟩ t.val) w.heap.size { (pk0 2 false 0 false) with session := f == 1,code := c,props := t } { (pa0 2 false 0 false) with session := f == 1,code := c,props := x }) := ⟨⟨rfl,rfl,rfl,rfl,rfl,rfl,rfl,rfl,rfl,rfl,rfl,rfl⟩,uh HO4,wills0 _ _,row0 _ _ _ _,row0 _ _ _ _,row0 _ _ _ _,row0 _ _ _ _,row0 _ _ _ _⟩
 have hbz : ((n : Int) == 0) = decide (n = 0) := by by_cases h : n = 0 <;> simp [h]
 go_wp2_with fail
 refine (must_any R _ st4 w0 _ (uh HS4)).mono ?_
 rintro e wz ⟨rfl,hz,hxz⟩
 have HZ := zh hz
 have HXZ := zh hxz
 clear hz hxz
 go_wp2
 go_end0
 have hBY : Stp (body? (pa0 2 false 0 false)) st { (pa0 2 false 0 false) with session := f == 1,code := c,props := x } st4 := by
  show Stp (bindR one? fun f => bindR (mustR (decide (f <= 1))) fun _ => bindR one? fun c => bindR (props? 2) fun x => pureR { (pa0 2 false 0 false) with session := f == 1,code := c,props := x }) st { (pa0 2 false 0 false) with session := f == 1,code := c,props := x } st4
  exact (uh HST1).bind ((Stp.must _ st1).bind ((uh HST3).bind ((uh HST4).bind (Stp.pure _ _))))
 exact ⟨rfl,{ (pk0 2 false 0 false) with session := f == 1,code := c,props := t },{ (pa0 2 false 0 false) with session := f == 1,code := c,props := x },_,(uh HP4).bx (uh HXZ),(uh HM).bx (uh HXZ) hlt,packet_stp hBY (stp_end (uh GL) _ (by first | exact hbz | rfl | simp)),uh HZ,(uh HX4).trans (uh HXZ).any⟩
theorem packet_k8 (R : Nat) (st : Option (List Int)) (w0 w : World) (h : RS w0 w R st) (hp : Pk w R (pk0 8 false 0 false)) (hl : ∀ l,st = some l -> l.length <= 65536) : Calls Tryz.prog 39 #[.pointer (some ⟨R,0,none⟩)] w (PackPost w0 R (pa0 8 false 0 false) st w) := by
 have hlt := h.lt
 have c0 := hp.kind
 have HP := zh hp
 have HS := zh h
 have HL := zh hl
 clear hp h hl
 simp only [pk0] at c0
 go_enter Tryz.func39,Tryz.ntmps39
 go_wp2_with fail
 refine (id_any R st w0 w (uh HS)).mono ?_
 rintro e w1 ⟨i,st1,rfl,-,hs1,h1,hx1⟩
 have hp1 := (uh HP).bx hx1
 have c5 := hp1.id
 have f5 := hp1.id_f
 have d0 : w1.cell? ⟨R,0,none⟩ = some (.int .i64 8) := hp1.kind
 have HP1 := zh (hp1.set_id i)
 have HS1 := zh (h1.set 5 (.int .i64 i) (by decide))
 have HX1 := zh ((hx1.any).set 5 (.int .i64 i) trivial)
 have HST1 := zh hs1
 clear hp1 h1 hx1 hs1 c0
 go_wp2_with fail
 refine (props_any R 8 st1 w0 _ (uh HS1)).mono ?_
 rintro e w2 ⟨t,x,st2,rfl,hO2,hs2,h2,hx2⟩
 have hp2 := (uh HP1).bx hx2
 have c7 := hp2.props
 have f7 := hp2.props_f
 have HP2 := zh (hp2.set_props t)
 have HS2 := zh (h2.set 7 t.val (by decide))
 have HX2 := zh (((uh HX1).trans hx2.any).set 7 t.val trivial)
 have HST2 := zh hs2
 have HO2 : Hid ((w2.setCell ⟨R,7,none⟩ t.val).ownsRow w.heap.size 83 4 t.val x.length (pcs x)) := owns_bx (owns_mono (uh hO2) (uh HX1).size) ((BX.refl R isAny w2).set 7 _ trivial) hlt
 have HL2 : Hid (∀ l,st2 = some l -> l.length <= 65536) := fun l hl => by
  subst hl
  exact stp_le2 id?_le (props?_le _) (uh HST1) hs2 (uh HL)
 clear hp2 h2 hx2 hs2 hO2 c5 f5 d0
 go_wp2_with fail
 refine (list_subs R { (pk0 8 false 0 false) with id := i,props := t } st2 w0 _ (uh HS2) (uh HP2) rfl (uh HL2) rfl).mono ?_
 rintro e w3 ⟨rfl,td,d,st3,hp3,hO3,hs3,h3,hx3⟩
 have HP3 := zh hp3
 have HS3 := zh h3
 have HX3 := zh ((uh HX2).trans hx3)
 have HST3 := zh hs3
 have HO3 := zh (owns_bx (uh HO2) hx3 hlt)
 have HD3 := zh (owns_mono (uh hO3) (uh HX2).size)
 clear hp3 h3 hx3 hs3 hO3 c7 f7
 obtain ⟨ao,n,cap,c19,⟨g1,g2⟩,gl⟩ := (uh HS3).rest
 unfold maxLen at g2
 have GL := zh gl
 clear gl
 have HM : Hid (Mean w3 w.heap.size { (pk0 8 false 0 false) with id := i,props := t,subs := td } { (pa0 8 false 0 false) with id := i,props := x,subs := d }) := ⟨⟨rfl,rfl,rfl,rfl,rfl,rfl,rfl,rfl,rfl,rfl,rfl,rfl⟩,uh HO3,wills0 _ _,row0 _ _ _ _,row0 _ _ _ _,uh HD3,row0 _ _ _ _,row0 _ _ _ _⟩
 have hbz : ((n : Int) == 0) = decide (n = 0) := by by_cases h : n = 0 <;> simp [h]
 go_wp2_with fail
 refine (must_any R _ st3 w0 _ (uh HS3)).mono ?_
 rintro e wz ⟨rfl,hz,hxz⟩
 have HZ := zh hz
 have HXZ := zh hxz
 clear hz hxz
 go_wp2
 go_end0
 have hBY : Stp (body? (pa0 8 false 0 false)) st { (pa0 8 false 0 false) with id := i,props := x,subs := d } st3 := by
  show Stp (bindR id? fun i => bindR (props? 8) fun x => bindR (list? sub?) fun d => pureR { (pa0 8 false 0 false) with id := i,props := x,subs := d }) st { (pa0 8 false 0 false) with id := i,props := x,subs := d } st3
  exact (uh HST1).bind ((uh HST2).bind ((uh HST3).bind (Stp.pure _ _)))
 exact ⟨rfl,{ (pk0 8 false 0 false) with id := i,props := t,subs := td },{ (pa0 8 false 0 false) with id := i,props := x,subs := d },_,(uh HP3).bx (uh HXZ),(uh HM).bx (uh HXZ) hlt,packet_stp hBY (stp_end (uh GL) _ (by first | exact hbz | rfl | simp)),uh HZ,(uh HX3).trans (uh HXZ).any⟩
theorem packet_k10 (R : Nat) (st : Option (List Int)) (w0 w : World) (h : RS w0 w R st) (hp : Pk w R (pk0 10 false 0 false)) (hl : ∀ l,st = some l -> l.length <= 65536) : Calls Tryz.prog 39 #[.pointer (some ⟨R,0,none⟩)] w (PackPost w0 R (pa0 10 false 0 false) st w) := by
 have hlt := h.lt
 have c0 := hp.kind
 have HP := zh hp
 have HS := zh h
 have HL := zh hl
 clear hp h hl
 simp only [pk0] at c0
 go_enter Tryz.func39,Tryz.ntmps39
 go_wp2_with fail
 refine (id_any R st w0 w (uh HS)).mono ?_
 rintro e w1 ⟨i,st1,rfl,-,hs1,h1,hx1⟩
 have hp1 := (uh HP).bx hx1
 have c5 := hp1.id
 have f5 := hp1.id_f
 have d0 : w1.cell? ⟨R,0,none⟩ = some (.int .i64 10) := hp1.kind
 have HP1 := zh (hp1.set_id i)
 have HS1 := zh (h1.set 5 (.int .i64 i) (by decide))
 have HX1 := zh ((hx1.any).set 5 (.int .i64 i) trivial)
 have HST1 := zh hs1
 clear hp1 h1 hx1 hs1 c0
 go_wp2_with fail
 refine (props_any R 10 st1 w0 _ (uh HS1)).mono ?_
 rintro e w2 ⟨t,x,st2,rfl,hO2,hs2,h2,hx2⟩
 have hp2 := (uh HP1).bx hx2
 have c7 := hp2.props
 have f7 := hp2.props_f
 have HP2 := zh (hp2.set_props t)
 have HS2 := zh (h2.set 7 t.val (by decide))
 have HX2 := zh (((uh HX1).trans hx2.any).set 7 t.val trivial)
 have HST2 := zh hs2
 have HO2 : Hid ((w2.setCell ⟨R,7,none⟩ t.val).ownsRow w.heap.size 83 4 t.val x.length (pcs x)) := owns_bx (owns_mono (uh hO2) (uh HX1).size) ((BX.refl R isAny w2).set 7 _ trivial) hlt
 have HL2 : Hid (∀ l,st2 = some l -> l.length <= 65536) := fun l hl => by
  subst hl
  exact stp_le2 id?_le (props?_le _) (uh HST1) hs2 (uh HL)
 clear hp2 h2 hx2 hs2 hO2 c5 f5 d0
 go_wp2_with fail
 refine (list_filters R { (pk0 10 false 0 false) with id := i,props := t } st2 w0 _ (uh HS2) (uh HP2) rfl (uh HL2) rfl).mono ?_
 rintro e w3 ⟨rfl,td,d,st3,hp3,hO3,hs3,h3,hx3⟩
 have HP3 := zh hp3
 have HS3 := zh h3
 have HX3 := zh ((uh HX2).trans hx3)
 have HST3 := zh hs3
 have HO3 := zh (owns_bx (uh HO2) hx3 hlt)
 have HD3 := zh (owns_mono (uh hO3) (uh HX2).size)
 clear hp3 h3 hx3 hs3 hO3 c7 f7
 obtain ⟨ao,n,cap,c19,⟨g1,g2⟩,gl⟩ := (uh HS3).rest
 unfold maxLen at g2
 have GL := zh gl
 clear gl
 have HM : Hid (Mean w3 w.heap.size { (pk0 10 false 0 false) with id := i,props := t,filters := td } { (pa0 10 false 0 false) with id := i,props := x,filters := d }) := ⟨⟨rfl,rfl,rfl,rfl,rfl,rfl,rfl,rfl,rfl,rfl,rfl,rfl⟩,uh HO3,wills0 _ _,row0 _ _ _ _,row0 _ _ _ _,row0 _ _ _ _,uh HD3,row0 _ _ _ _⟩
 have hbz : ((n : Int) == 0) = decide (n = 0) := by by_cases h : n = 0 <;> simp [h]
 go_wp2_with fail
 refine (must_any R _ st3 w0 _ (uh HS3)).mono ?_
 rintro e wz ⟨rfl,hz,hxz⟩
 have HZ := zh hz
 have HXZ := zh hxz
 clear hz hxz
 go_wp2
 go_end0
 have hBY : Stp (body? (pa0 10 false 0 false)) st { (pa0 10 false 0 false) with id := i,props := x,filters := d } st3 := by
  show Stp (bindR id? fun i => bindR (props? 10) fun x => bindR (list? text?) fun d => pureR { (pa0 10 false 0 false) with id := i,props := x,filters := d }) st { (pa0 10 false 0 false) with id := i,props := x,filters := d } st3
  exact (uh HST1).bind ((uh HST2).bind ((uh HST3).bind (Stp.pure _ _)))
 exact ⟨rfl,{ (pk0 10 false 0 false) with id := i,props := t,filters := td },{ (pa0 10 false 0 false) with id := i,props := x,filters := d },_,(uh HP3).bx (uh HXZ),(uh HM).bx (uh HXZ) hlt,packet_stp hBY (stp_end (uh GL) _ (by first | exact hbz | rfl | simp)),uh HZ,(uh HX3).trans (uh HXZ).any⟩
theorem packet_k9 (R : Nat) (st : Option (List Int)) (w0 w : World) (h : RS w0 w R st) (hp : Pk w R (pk0 9 false 0 false)) (hl : ∀ l,st = some l -> l.length <= 65536) : Calls Tryz.prog 39 #[.pointer (some ⟨R,0,none⟩)] w (PackPost w0 R (pa0 9 false 0 false) st w) := by
 have hlt := h.lt
 have c0 := hp.kind
 have HP := zh hp
 have HS := zh h
 have HL := zh hl
 clear hp h hl
 simp only [pk0] at c0
 go_enter Tryz.func39,Tryz.ntmps39
 go_wp2_with fail
 refine (id_any R st w0 w (uh HS)).mono ?_
 rintro e w1 ⟨i,st1,rfl,-,hs1,h1,hx1⟩
 have hp1 := (uh HP).bx hx1
 have c5 := hp1.id
 have f5 := hp1.id_f
 have d0 : w1.cell? ⟨R,0,none⟩ = some (.int .i64 9) := hp1.kind
 have HP1 := zh (hp1.set_id i)
 have HS1 := zh (h1.set 5 (.int .i64 i) (by decide))
 have HX1 := zh ((hx1.any).set 5 (.int .i64 i) trivial)
 have HST1 := zh hs1
 clear hp1 h1 hx1 hs1 c0
 go_wp2_with fail
 refine (props_any R 9 st1 w0 _ (uh HS1)).mono ?_
 rintro e w2 ⟨t,x,st2,rfl,hO2,hs2,h2,hx2⟩
 have hp2 := (uh HP1).bx hx2
 have c7 := hp2.props
 have f7 := hp2.props_f
 have HP2 := zh (hp2.set_props t)
 have HS2 := zh (h2.set 7 t.val (by decide))
 have HX2 := zh (((uh HX1).trans hx2.any).set 7 t.val trivial)
 have HST2 := zh hs2
 have HO2 : Hid ((w2.setCell ⟨R,7,none⟩ t.val).ownsRow w.heap.size 83 4 t.val x.length (pcs x)) := owns_bx (owns_mono (uh hO2) (uh HX1).size) ((BX.refl R isAny w2).set 7 _ trivial) hlt
 have HL2 : Hid (∀ l,st2 = some l -> l.length <= 65536) := fun l hl => by
  subst hl
  exact stp_le2 id?_le (props?_le _) (uh HST1) hs2 (uh HL)
 clear hp2 h2 hx2 hs2 hO2 c5 f5 d0
 go_wp2_with fail
 refine (list_codes R { (pk0 9 false 0 false) with id := i,props := t } st2 w0 _ (uh HS2) (uh HP2) rfl (uh HL2) (show (9 : Int) ≠ 8 by decide) (show (9 : Int) ≠ 10 by decide)).mono ?_
 rintro e w3 ⟨rfl,td,d,st3,hp3,hO3,hs3,h3,hx3⟩
 have HP3 := zh hp3
 have HS3 := zh h3
 have HX3 := zh ((uh HX2).trans hx3)
 have HST3 := zh hs3
 have HO3 := zh (owns_bx (uh HO2) hx3 hlt)
 have HD3 := zh (owns_mono (uh hO3) (uh HX2).size)
 clear hp3 h3 hx3 hs3 hO3 c7 f7
 obtain ⟨ao,n,cap,c19,⟨g1,g2⟩,gl⟩ := (uh HS3).rest
 unfold maxLen at g2
 have GL := zh gl
 clear gl
 have HM : Hid (Mean w3 w.heap.size { (pk0 9 false 0 false) with id := i,props := t,codes := td } { (pa0 9 false 0 false) with id := i,props := x,codes := d }) := ⟨⟨rfl,rfl,rfl,rfl,rfl,rfl,rfl,rfl,rfl,rfl,rfl,rfl⟩,uh HO3,wills0 _ _,row0 _ _ _ _,row0 _ _ _ _,row0 _ _ _ _,row0 _ _ _ _,uh HD3⟩
 have hbz : ((n : Int) == 0) = decide (n = 0) := by by_cases h : n = 0 <;> simp [h]
 go_wp2_with fail
 refine (must_any R _ st3 w0 _ (uh HS3)).mono ?_
 rintro e wz ⟨rfl,hz,hxz⟩
 have HZ := zh hz
 have HXZ := zh hxz
 clear hz hxz
 go_wp2
 go_end0
 have hBY : Stp (body? (pa0 9 false 0 false)) st { (pa0 9 false 0 false) with id := i,props := x,codes := d } st3 := by
  show Stp (bindR id? fun i => bindR (props? 9) fun x => bindR (list? one?) fun d => pureR { (pa0 9 false 0 false) with id := i,props := x,codes := d }) st { (pa0 9 false 0 false) with id := i,props := x,codes := d } st3
  exact (uh HST1).bind ((uh HST2).bind ((uh HST3).bind (Stp.pure _ _)))
 exact ⟨rfl,{ (pk0 9 false 0 false) with id := i,props := t,codes := td },{ (pa0 9 false 0 false) with id := i,props := x,codes := d },_,(uh HP3).bx (uh HXZ),(uh HM).bx (uh HXZ) hlt,packet_stp hBY (stp_end (uh GL) _ (by first | exact hbz | rfl | simp)),uh HZ,(uh HX3).trans (uh HXZ).any⟩
theorem packet_k11 (R : Nat) (st : Option (List Int)) (w0 w : World) (h : RS w0 w R st) (hp : Pk w R (pk0 11 false 0 false)) (hl : ∀ l,st = some l -> l.length <= 65536) : Calls Tryz.prog 39 #[.pointer (some ⟨R,0,none⟩)] w (PackPost w0 R (pa0 11 false 0 false) st w) := by
 have hlt := h.lt
 have c0 := hp.kind
 have HP := zh hp
 have HS := zh h
 have HL := zh hl
 clear hp h hl
 simp only [pk0] at c0
 go_enter Tryz.func39,Tryz.ntmps39
 go_wp2_with fail
 refine (id_any R st w0 w (uh HS)).mono ?_
 rintro e w1 ⟨i,st1,rfl,-,hs1,h1,hx1⟩
 have hp1 := (uh HP).bx hx1
 have c5 := hp1.id
 have f5 := hp1.id_f
 have d0 : w1.cell? ⟨R,0,none⟩ = some (.int .i64 11) := hp1.kind
 have HP1 := zh (hp1.set_id i)
 have HS1 := zh (h1.set 5 (.int .i64 i) (by decide))
 have HX1 := zh ((hx1.any).set 5 (.int .i64 i) trivial)
 have HST1 := zh hs1
 clear hp1 h1 hx1 hs1 c0
 go_wp2_with fail
 refine (props_any R 11 st1 w0 _ (uh HS1)).mono ?_
 rintro e w2 ⟨t,x,st2,rfl,hO2,hs2,h2,hx2⟩
 have hp2 := (uh HP1).bx hx2
 have c7 := hp2.props
 have f7 := hp2.props_f
 have HP2 := zh (hp2.set_props t)
 have HS2 := zh (h2.set 7 t.val (by decide))
 have HX2 := zh (((uh HX1).trans hx2.any).set 7 t.val trivial)
 have HST2 := zh hs2
 have HO2 : Hid ((w2.setCell ⟨R,7,none⟩ t.val).ownsRow w.heap.size 83 4 t.val x.length (pcs x)) := owns_bx (owns_mono (uh hO2) (uh HX1).size) ((BX.refl R isAny w2).set 7 _ trivial) hlt
 have HL2 : Hid (∀ l,st2 = some l -> l.length <= 65536) := fun l hl => by
  subst hl
  exact stp_le2 id?_le (props?_le _) (uh HST1) hs2 (uh HL)
 clear hp2 h2 hx2 hs2 hO2 c5 f5 d0
 go_wp2_with fail
 refine (list_codes R { (pk0 11 false 0 false) with id := i,props := t } st2 w0 _ (uh HS2) (uh HP2) rfl (uh HL2) (show (11 : Int) ≠ 8 by decide) (show (11 : Int) ≠ 10 by decide)).mono ?_
 rintro e w3 ⟨rfl,td,d,st3,hp3,hO3,hs3,h3,hx3⟩
 have HP3 := zh hp3
 have HS3 := zh h3
 have HX3 := zh ((uh HX2).trans hx3)
 have HST3 := zh hs3
 have HO3 := zh (owns_bx (uh HO2) hx3 hlt)
 have HD3 := zh (owns_mono (uh hO3) (uh HX2).size)
 clear hp3 h3 hx3 hs3 hO3 c7 f7
 obtain ⟨ao,n,cap,c19,⟨g1,g2⟩,gl⟩ := (uh HS3).rest
 unfold maxLen at g2
 have GL := zh gl
 clear gl
 have HM : Hid (Mean w3 w.heap.size { (pk0 11 false 0 false) with id := i,props := t,codes := td } { (pa0 11 false 0 false) with id := i,props := x,codes := d }) := ⟨⟨rfl,rfl,rfl,rfl,rfl,rfl,rfl,rfl,rfl,rfl,rfl,rfl⟩,uh HO3,wills0 _ _,row0 _ _ _ _,row0 _ _ _ _,row0 _ _ _ _,row0 _ _ _ _,uh HD3⟩
 have hbz : ((n : Int) == 0) = decide (n = 0) := by by_cases h : n = 0 <;> simp [h]
 go_wp2_with fail
 refine (must_any R _ st3 w0 _ (uh HS3)).mono ?_
 rintro e wz ⟨rfl,hz,hxz⟩
 have HZ := zh hz
 have HXZ := zh hxz
 clear hz hxz
 go_wp2
 go_end0
 have hBY : Stp (body? (pa0 11 false 0 false)) st { (pa0 11 false 0 false) with id := i,props := x,codes := d } st3 := by
  show Stp (bindR id? fun i => bindR (props? 11) fun x => bindR (list? one?) fun d => pureR { (pa0 11 false 0 false) with id := i,props := x,codes := d }) st { (pa0 11 false 0 false) with id := i,props := x,codes := d } st3
  exact (uh HST1).bind ((uh HST2).bind ((uh HST3).bind (Stp.pure _ _)))
 exact ⟨rfl,{ (pk0 11 false 0 false) with id := i,props := t,codes := td },{ (pa0 11 false 0 false) with id := i,props := x,codes := d },_,(uh HP3).bx (uh HXZ),(uh HM).bx (uh HXZ) hlt,packet_stp hBY (stp_end (uh GL) _ (by first | exact hbz | rfl | simp)),uh HZ,(uh HX3).trans (uh HXZ).any⟩
abbrev pkz : Pkv := pk0 0 false 0 false
def dbody (l : List Int) : Option (Pa × List Int) := packet? (bpa (l.getD 0 0)) ((l.drop (meas l).1).take ((meas l).2.1 - (meas l).1))
def dnum (l : List Int) : Int := if l = [] then 3 else if bok (l.getD 0 0) = false then 1 else if (meas l).2.2 ≠ 0 then (meas l).2.2 else if (dbody l).isSome then 0 else 1
def DecPost (l : List Int) (w : World) (e : Ending) (w' : World) : Prop :=
 ∃ (q : Pkv) (n : Nat) (E : Value),e = .returned (.tuple #[q.val,.int .i64 n,E]) /\
  ((dnum l ≠ 0 /\ q = pkz /\ n = 0 /\ Hid (ErP w' E (dnum l))) \/ (dnum l = 0 /\ n = (meas l).2.1 /\ E = .nilIface /\ ∃ P r,dbody l = some (P,r) /\ Hid (Mean w' w.heap.size q P))) /\ Below w.heap.size w w'
theorem dec_bad (l : List Int) (w w' : World) (x : Value) (m : Int) (hm : dnum l = m) (h0 : m ≠ 0) (hE : Hid (ErP w' (.iface 112 x) m)) (hb : Below w.heap.size w w') : DecPost l w (.returned (.tuple #[pkz.val,.int .i64 (0 : Nat),.iface 112 x])) w' :=
 ⟨pkz,0,_,rfl,.inl ⟨by rw [hm]; exact h0,rfl,rfl,by rw [hm]; exact hE⟩,hb⟩
theorem er_cells {w : World} {A : Nat} {vs : List Value} {c : Bool} (hA : w.cell? ⟨A,1,none⟩ = some (.bool c)) : ∀ {d : Nat} {v : Value} {n : Int},Er w d v n -> Er (w.setCells A 0 vs) d v n
 | 0,_,_,h => h
 | d + 1,_,_,⟨b,u,h1,h2,h3⟩ => ⟨b,u,h1,by
   rw [World.cell?_setCells_out A vs 0 w ⟨b,1,none⟩ (fun e _ => by
    have e : b = A := e
    subst e
    obtain ⟨t,x,rfl⟩ := h3.iface
    rw [hA] at h2
    cases h2)]
   exact h2,er_cells hA h3⟩
theorem erp_cells {w : World} {A : Nat} {vs : List Value} {c : Bool} {E : Value} {n : Int} (h : ErP w E n) (hA : w.cell? ⟨A,1,none⟩ = some (.bool c)) : ErP (w.setCells A 0 vs) E n := by
 obtain ⟨x,d,h1,h2,h3⟩ := h
 exact ⟨x,d,h1,h2,er_cells hA h3⟩
theorem dec_nil (ao : Option Addr) (cap : Nat) (w : World) : Calls Tryz.prog 14 #[.slice ao 0 cap] w (DecPost [] w) := by
 have HPN := zh (pk_new w pkz)
 have HBN : Hid (Below w.heap.size w (w.alloc (.cells pkz.cells.toArray 30))) := bal _ _
 have hdn : dnum [] = 3 := rfl
 obtain ⟨l,hl⟩ : ∃ l : List Int,l = [] := ⟨_,rfl⟩
 rw [<- hl] at hdn |-
 have HDN := zh hdn
 clear hdn hl
 go_enter Tryz.func14,Tryz.ntmps14
 go_wp2_with fail
 refine (pf_use 3 _).mono ?_
 rintro e w1 ⟨x,rfl,hE,hb1⟩
 have HP1 := zh ((uh HPN).below hb1)
 have HB1 : Hid (Below w.heap.size w w1) := (uh HBN).trans (hb1.mono (uh HBN).size)
 clear hb1 HPN HBN
 dsimp only
 go_step
 refine wpList_store_mid rfl 30 _ _ rfl w.heap.size 0 pkz.cells.toArray rfl rfl ((uh HP1).there _) packet_size (Pkv.ones' _) ?_
 simp only [Act.put]
 have HPS := zh ((uh HP1).stored pkz)
 have HBS : Hid (Below w.heap.size w (w1.setCells w.heap.size 0 pkz.cells)) := setCells_below (uh HB1) (Nat.le_refl _)
 have HES : Hid (ErP (w1.setCells w.heap.size 0 pkz.cells) (.iface 112 x) 3) := erp_cells (uh hE) (uh HP1).dup
 generalize w1.setCells w.heap.size 0 pkz.cells = wS at HPS HBS HES |-
 go_wp2
 refine bodyPost_ret (res_pk3 (B := w.heap.size) (q := pkz) rfl rfl (uh HPS)) rfl ?_
 exact dec_bad l w _ x 3 (uh HDN) (by decide) HES (uh HBS)
def rdc (q : Pkv) (ao : Option Addr) (m cap : Nat) : Array Value := #[.int .i64 q.kind,.bool q.dup,.int .i64 q.qos,.bool q.retain,.string q.topic,.int .i64 q.id,.string q.payload,q.props.val,.string q.client,.bool q.clean,.int .i64 q.keep,q.wills.val,q.user.val,q.pass.val,.int .i64 q.code,.bool q.session,q.subs.val,q.filters.val,q.codes.val,.slice ao m cap,.nilIface]
theorem reader_build (a : Act) (dst : Option Tmp) (x y : Operand) (ty : TypeId) (pos : String) (after : Array Edge) (q : Pkv) (ao : Option Addr) (m cap : Nat) (hx : a.eval x = q.val) (hy : a.eval y = .slice ao m cap) (w : World) :
  (execOp a.eval ⟨dst,.build 81 #[(0,x),(1,y)],ty,pos,after,none⟩).run Tryz.prog w = .ok (.value (.agg (rdc q ao m cap))) w := by
 unfold execOp
 simp only [List.map_toArray,List.map_cons,List.map_nil,hx,hy]
 kernel_rfl
theorem reader_alloc (ρ : Operand -> Value) (dst : Option Tmp) (ty : TypeId) (pos : String) (after : Array Edge) (w : World) :
  (execOp ρ ⟨dst,.alloc 81,ty,pos,after,none⟩).run Tryz.prog w = .ok (.value (.pointer (some ⟨w.heap.size,0,none⟩))) (w.alloc (.cells (rdc pkz none 0 0) 81)) := by
 kernel_rfl
theorem reader_size : (Tryz.prog.info? 81).map (·.size) = some 21 := by kernel_rfl
theorem rdc_one (q : Pkv) (ao : Option Addr) (m cap : Nat) : (rdc q ao m cap).all (·.oneCell') = true := by
 unfold rdc
 kernel_rfl
theorem reader_store (a : Act) (dst : Option Tmp) (x y : Operand) (ty : TypeId) (pos : String) (after : Array Edge) (q : Pkv) (ao : Option Addr) (m cap : Nat) (w : World) (hx : a.eval x = .pointer (some ⟨w.heap.size,0,none⟩)) (hy : a.eval y = .agg (rdc q ao m cap)) :
  (execOp a.eval ⟨dst,.store 81 x y,ty,pos,after,none⟩).run Tryz.prog (w.alloc (.cells (rdc pkz none 0 0) 81)) = .ok .skip (w.alloc (.cells (rdc q ao m cap) 81)) := by
 show Sem.run Tryz.prog (do Instr.storeAt 81 (a.eval x) (a.eval y); pure Next.skip) _ = _
 rw [hx,hy]
 simp only [Sem.run_bind]
 rw [run_storeAt_new w 81 (rdc pkz none 0 0) (rdc q ao m cap) (by rw [reader_size]; rfl) rfl (rdc_one q ao m cap)]
 rfl
theorem step_value {w w' : World} {ops : Array Oper} {o : Oper} {a : Act} {K : Act -> World -> Prop} {Q : Exit -> Act -> World -> Prop} {E : Prop} {v : Value} (hgd : o.guard = none) (hr : (execOp a.eval o).run Tryz.prog w = .ok (.value v) w') (h : K (a.put o.dst v) w') :
  if Region.wanted o (yielded ops a.tmps) = true then Oper.wp Tryz.prog o a w K Q else E := by
 rw [if_pos (by simp [Region.wanted,hgd])]
 unfold Oper.wp
 rw [hr]
 exact h
theorem step_skip {w w' : World} {ops : Array Oper} {o : Oper} {a : Act} {K : Act -> World -> Prop} {Q : Exit -> Act -> World -> Prop} {E : Prop} (hgd : o.guard = none) (hr : (execOp a.eval o).run Tryz.prog w = .ok .skip w') (h : K (a.put o.dst undef) w') :
  if Region.wanted o (yielded ops a.tmps) = true then Oper.wp Tryz.prog o a w K Q else E := by
 rw [if_pos (by simp [Region.wanted,hgd])]
 unfold Oper.wp
 rw [hr]
 exact h
theorem rdc_cell {w : World} {q : Pkv} {ao : Option Addr} {m cap : Nat} (j : Nat) (v : Value) (h : (rdc q ao m cap)[j]? = some v) : (w.alloc (.cells (rdc q ao m cap) 81)).cell? ⟨w.heap.size,j,none⟩ = some v := by
 have k := heap_alloc_new w (.cells (rdc q ao m cap) 81)
 unfold World.cell?
 dsimp only
 rw [k]
 simpa using h
theorem rdc_pk (w : World) (q : Pkv) (ao : Option Addr) (m cap : Nat) : Pk (w.alloc (.cells (rdc q ao m cap) 81)) w.heap.size q := fun j hj => by
 refine ⟨rdc_cell j _ ?_,by simp⟩
 rw [<- cells_get q j hj]
 match j,hj with
 | 0,_ => rfl
 | 1,_ => rfl
 | 2,_ => rfl
 | 3,_ => rfl
 | 4,_ => rfl
 | 5,_ => rfl
 | 6,_ => rfl
 | 7,_ => rfl
 | 8,_ => rfl
 | 9,_ => rfl
 | 10,_ => rfl
 | 11,_ => rfl
 | 12,_ => rfl
 | 13,_ => rfl
 | 14,_ => rfl
 | 15,_ => rfl
 | 16,_ => rfl
 | 17,_ => rfl
 | 18,_ => rfl
 | n + 19,h => exact absurd h (by omega)
theorem rdc_rs (w0 w : World) (q : Pkv) (ao : Option Addr) (m cap : Nat) (l : List Int) (hb : Byt w0 (.slice ao m cap) l) (hw : Below w0.heap.size w0 w) : RS w0 (w.alloc (.cells (rdc q ao m cap) 81)) w.heap.size (some l) :=
 ⟨⟨rfl,fun k hk => by have hk : k = w.heap.size := hk; subst hk; simp⟩,⟨q.dup,rdc_cell 1 _ rfl⟩,.slice ao m cap,l,.nilIface,⟨rdc_cell 19 _ rfl,by simp,rdc_cell 20 _ rfl,by simp⟩,hb,hw.alloc hw.size _,hw.size,.inl ⟨rfl,rfl⟩⟩
theorem RSX.bad {w0 w : World} {R : Nat} {X : Nat -> Prop} (h : RSX w0 w R X none) : ∃ t x d n,w.cell? ⟨R,20,none⟩ = some (.iface t x) /\ d <= 2 /\ Er w d (.iface t x) n := by
 obtain ⟨_,_,bv,l',E,hr,hb,_,_,hst⟩ := h
 rcases hst with ⟨e,_⟩ | ⟨_,d,n,hd,he⟩
 ·cases e
 ·obtain ⟨t,x,rfl⟩ := he.iface
  exact ⟨t,x,d,n,hr.2.2.1,hd,he.er⟩
theorem Pk.far {w w' : World} {R A : Nat} {may : Nat -> Prop} {q : Pkv} (h : Pk w A q) (hx : BX R may w w') (hA : A ≠ R) : Pk w' A q := fun j hj =>
 have hb := hx.block A (cell_lt (h 0 (by omega)).1) hA
 ⟨(World.cell?_of_block hb).trans (h j hj).1,(World.frozen?_of_block hb).trans (h j hj).2⟩
theorem bok_kind (b : Int) (h0 : 0 <= b) (h1 : b <= 255) (h : bok b = true) : 1 <= b / 16 /\ b / 16 <= 15 := by
 refine ⟨?_,by omega⟩
 rcases Int.lt_or_le (b / 16) 1 with hk | hk
 ·have : b / 16 = 0 := by omega
  unfold bok bmay at h
  simp [this] at h
 ·exact hk
theorem packet_all (R : Nat) (b : Int) (h0 : 0 <= b) (h1 : b <= 255) (hb : bok b = true) (st : Option (List Int)) (w0 w : World) (h : RS w0 w R st) (hp : Pk w R (bpk b)) (hl : ∀ l,st = some l -> l.length <= 65536) : Calls Tryz.prog 39 #[.pointer (some ⟨R,0,none⟩)] w (PackPost w0 R (bpa b) st w) := by
 obtain ⟨k1,k2⟩ := bok_kind b h0 h1 hb
 unfold bpk at hp
 unfold bpa
 by_cases h3 : b / 16 = 3
 ·rw [if_pos h3] at hp |-
  exact packet_k3 R _ _ _ st w0 w h hp hl
 ·rw [if_neg h3] at hp |-
  generalize b / 16 = k at k1 k2 h3 hp
  have hk : k = 1 \/ k = 2 \/ k = 4 \/ k = 5 \/ k = 6 \/ k = 7 \/ k = 8 \/ k = 9 \/ k = 10 \/ k = 11 \/ k = 12 \/ k = 13 \/ k = 14 \/ k = 15 := by omega
  rcases hk with rfl | rfl | rfl | rfl | rfl | rfl | rfl | rfl | rfl | rfl | rfl | rfl | rfl | rfl
  ·exact packet_k1 R st w0 w h hp hl
  ·exact packet_k2 R st w0 w h hp hl
  ·exact packet_k4 R st w0 w h hp hl
  ·exact packet_k5 R st w0 w h hp hl
  ·exact packet_k6 R st w0 w h hp hl
  ·exact packet_k7 R st w0 w h hp hl
  ·exact packet_k8 R st w0 w h hp hl
  ·exact packet_k9 R st w0 w h hp hl
  ·exact packet_k10 R st w0 w h hp hl
  ·exact packet_k11 R st w0 w h hp hl
  ·exact packet_k12 R st w0 w h hp hl
  ·exact packet_k13 R st w0 w h hp hl
  ·exact packet_k14 R st w0 w h hp hl
  ·exact packet_k15 R st w0 w h hp hl
theorem Mean.base {w : World} {B B' : Nat} {p : Pkv} {P : Pa} (h : Mean w B p P) (hB : B' <= B) : Mean w B' p P :=
 ⟨h.sc,owns_mono h.props hB,by
  obtain ⟨ws,h1,h2,h3⟩ := h.wills
  exact ⟨ws,owns_mono h1 hB,h2,fun i a b ha hb => by
   obtain ⟨k1,k2,k3,k4,k5⟩ := h3 i a b ha hb
   exact ⟨k1,k2,k3,k4,owns_mono k5 hB⟩⟩,owns_mono h.user hB,owns_mono h.pass hB,owns_mono h.subs hB,owns_mono h.filters hB,owns_mono h.codes hB⟩
theorem owns_cells {w : World} {A : Nat} {vs : List Value} {o B : Nat} {e : TypeId} {s : Nat} {v : Value} {n : Nat} {xs : List Value} (h : w.ownsRow B e s v n xs) (hA : A < B) : (w.setCells A o vs).ownsRow B e s v n xs := by
 induction vs generalizing w o with
 | nil => exact h
 | cons u vs ih =>
  rw [World.setCells]
  exact ih (owns_out h hA)
theorem Mean.cells {w : World} {A B : Nat} {vs : List Value} {p : Pkv} {P : Pa} (h : Mean w B p P) (hA : A < B) : Mean (w.setCells A 0 vs) B p P :=
 ⟨h.sc,owns_cells h.props hA,by
  obtain ⟨ws,h1,h2,h3⟩ := h.wills
  exact ⟨ws,owns_cells h1 hA,h2,fun i a b ha hb => by
   obtain ⟨k1,k2,k3,k4,k5⟩ := h3 i a b ha hb
   exact ⟨k1,k2,k3,k4,owns_cells k5 hA⟩⟩,owns_cells h.user hA,owns_cells h.pass hA,owns_cells h.subs hA,owns_cells h.filters hA,owns_cells h.codes hA⟩
end Go.Proofs.YtemedclhglkfjaaGreatDoor.K
