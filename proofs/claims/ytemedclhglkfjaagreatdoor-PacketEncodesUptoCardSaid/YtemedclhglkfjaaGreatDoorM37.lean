/- Proved here: helpers, one text behind the other. -/
import Derived.Test.YtemedclhglkfjaaGreatDoorM35
import Derived.Test.YtemedclhglkfjaaGreatDoorM36
import Derived.Test.YtemedclhglkfjaaGreatDoorZKEqW
import Derived.Deep.RegionHeld3
import Derived.Test.YtemedclhglkfjaaGreatDoorM26
import Derived.Test.YtemedclhglkfjaaGreatDoorM33
import Derived.Deep.WholeRow
set_option maxHeartbeats 20000000
namespace Go.Proofs.YtemedclhglkfjaaGreatDoor.K
open Go.RowKit
structure Wl where
 topic : ByteArray
 payload : ByteArray
 qos : Int
 retain : Bool
 props : List Pr
structure Pa where
 kind : Int
 dup : Bool
 qos : Int
 retain : Bool
 topic : ByteArray
 id : Int
 payload : ByteArray
 props : List Pr
 client : ByteArray
 clean : Bool
 keep : Int
 wills : List Wl
 user : List ByteArray
 pass : List ByteArray
 code : Int
 session : Bool
 subs : List Sb
 filters : List ByteArray
 codes : List Int
abbrev sl0 : Sl := ⟨none,0,0⟩
def pk0 (kind : Int) (dup : Bool) (qos : Int) (retain : Bool) : Pkv := ⟨kind,dup,qos,retain,⟨#[]⟩,0,⟨#[]⟩,sl0,⟨#[]⟩,false,0,sl0,sl0,sl0,0,false,sl0,sl0,sl0⟩
def Ws (w : World) (B : Nat) (ws : List Wv) (us : List Wl) : Prop := ws.length = us.length /\ ∀ (i : Nat) (a : Wv) (b : Wl),ws[i]? = some a -> us[i]? = some b -> a.topic = b.topic /\ a.payload = b.payload /\ a.qos = b.qos /\ a.retain = b.retain /\ w.ownsRow B 83 4 a.props.val b.props.length (pcs b.props)
structure Mean (w : World) (B : Nat) (p : Pkv) (P : Pa) : Prop where
 sc : p.kind = P.kind /\ p.dup = P.dup /\ p.qos = P.qos /\ p.retain = P.retain /\ p.topic = P.topic /\ p.id = P.id /\ p.payload = P.payload /\ p.client = P.client /\ p.clean = P.clean /\ p.keep = P.keep /\ p.code = P.code /\ p.session = P.session
 props : w.ownsRow B 83 4 p.props.val P.props.length (pcs P.props)
 wills : ∃ ws,w.ownsRow B 52 5 p.wills.val P.wills.length (wcs ws) /\ Ws w B ws P.wills
 user : w.ownsRow B 9 1 p.user.val P.user.length (P.user.map Value.string)
 pass : w.ownsRow B 9 1 p.pass.val P.pass.length (P.pass.map Value.string)
 subs : w.ownsRow B 54 5 p.subs.val P.subs.length (scs P.subs)
 filters : w.ownsRow B 9 1 p.filters.val P.filters.length (P.filters.map Value.string)
 codes : w.ownsRow B 3 1 p.codes.val P.codes.length (P.codes.map (Value.int .i64))
set_option maxRecDepth 100000
abbrev wl0 : Wl := ⟨⟨#[]⟩,⟨#[]⟩,0,false,[]⟩
def WlIs (w : World) (b off : Nat) (u : Wl) : Prop := ∃ ao n cap,(w.cell? ⟨b,off,none⟩ = some (.string u.topic) /\ w.cell? ⟨b,off + 1,none⟩ = some (.string u.payload) /\ w.cell? ⟨b,off + 2,none⟩ = some (.int .i64 u.qos) /\ w.cell? ⟨b,off + 3,none⟩ = some (.bool u.retain) /\ w.cell? ⟨b,off + 4,none⟩ = some (.slice ao n cap)) /\ Prp w (.slice ao n cap) u.props /\ u.props.length <= 1000000000
def WlAt (w : World) (b off : Nat) (us : List Wl) : Prop := ∀ k,k < us.length -> WlIs w b (off + k * 5) (us.getD k wl0)
theorem WlIs.below {w w' : World} {b off : Nat} {u : Wl} (h : WlIs w b off u) (hb : Below w.heap.size w w') : WlIs w' b off u := by
 obtain ⟨ao,n,cap,⟨h0,h1,h2,h3,h4⟩,h5,h6⟩ := h
 have hl : b < w.heap.size := cell_lt h0
 exact ⟨ao,n,cap,⟨(hb.cell hl).trans h0,(hb.cell hl).trans h1,(hb.cell hl).trans h2,(hb.cell hl).trans h3,(hb.cell hl).trans h4⟩,h5.below hb,h6⟩
theorem wl_eq (u v : Wl) : u = v ↔ (u.topic = v.topic /\ u.payload = v.payload /\ u.qos = v.qos /\ u.retain = v.retain /\ u.props = v.props) := by
 obtain ⟨a,b,c,d,e⟩ := u
 obtain ⟨a',b',c',d',e'⟩ := v
 simp
theorem eqws_core (ba oa bb ob ca cb : Nat) (l m : List Wl) (len : Nat) (w : World) (hl : l.length = len) (hm : m.length = len) (hmx : len <= 1000000000) (ha : WlAt w ba oa l) (hb : WlAt w bb ob m) :
  Calls Tryz.prog 33 #[.slice (some ⟨ba,oa,none⟩) len ca,.slice (some ⟨bb,ob,none⟩) len cb] w fun e w' => (∃ b,e = .returned (.bool b) /\ (b = true ↔ ∀ j,j < len -> l.getD j wl0 = m.getD j wl0)) /\ Below w.heap.size w w' := by
 have HL := zh hl
 have HM := zh hm
 have HA := zh ha
 have HB := zh hb
 clear hl hm ha hb
 go_enter Tryz.func33,Tryz.ntmps33
 go_wp2
 go_loopw [5] (fun i wr => ∃ k : Nat,k <= len /\ i = .int .i64 k /\ Hid (∀ j,j < k -> l.getD j wl0 = m.getD j wl0) /\ Hid (Below w.heap.size w wr)) (fun i _ => len - (intOf i).toNat)
 case atStart => exact ⟨0,Nat.zero_le _,rfl,fun j hj => absurd hj (Nat.not_lt_zero j),Below.refl _ _⟩
 case round =>
  obtain ⟨k,hk,rfl,HALL,HBEL⟩ := hrel
  by_cases hlt : k < len
  ·have hx := ((uh HA) k (by rw [uh HL]; exact hlt)).below (uh HBEL)
   have hy := ((uh HB) k (by rw [uh HM]; exact hlt)).below (uh HBEL)
   have hwl := wl_eq (l.getD k wl0) (m.getD k wl0)
   generalize hu : l.getD k wl0 = u at hx hwl
   generalize hv : m.getD k wl0 = v at hy hwl
   have HU := zh hu
   have HV := zh hv
   have HWL := zh hwl
   clear hu hv hwl
   obtain ⟨ao,n,cap,hc,hp,hq⟩ := hx
   obtain ⟨ao',n',cap',hc',hp',hq'⟩ := hy
   have HP := zh hp
   have HP' := zh hp'
   have HC := zh hc
   have HC' := zh hc'
   have hlb : ba < wr.heap.size := cell_lt hc.1
   have hlb' : bb < wr.heap.size := cell_lt hc'.1
   obtain ⟨x1,x2,x3,x4,x5⟩ := hc
   obtain ⟨y1,y2,y3,y4,y5⟩ := hc'
   clear hp hp'
   have HK : Hid (∀ W : World,Below wr.heap.size wr W -> (fun w' => (w'.cell? ⟨ba,oa + k * 5,none⟩ = some (.string u.topic) /\ w'.cell? ⟨ba,oa + k * 5 + 1,none⟩ = some (.string u.payload) /\ w'.cell? ⟨ba,oa + k * 5 + 2,none⟩ = some (.int .i64 u.qos) /\ w'.cell? ⟨ba,oa + k * 5 + 3,none⟩ = some (.bool u.retain) /\ w'.cell? ⟨ba,oa + k * 5 + 4,none⟩ = some (.slice ao n cap)) /\ (w'.cell? ⟨bb,ob + k * 5,none⟩ = some (.string v.topic) /\ w'.cell? ⟨bb,ob + k * 5 + 1,none⟩ = some (.string v.payload) /\ w'.cell? ⟨bb,ob + k * 5 + 2,none⟩ = some (.int .i64 v.qos) /\ w'.cell? ⟨bb,ob + k * 5 + 3,none⟩ = some (.bool v.retain) /\ w'.cell? ⟨bb,ob + k * 5 + 4,none⟩ = some (.slice ao' n' cap'))) W) := by
    intro W hW
    obtain ⟨x1,x2,x3,x4,x5⟩ := uh HC
    obtain ⟨y1,y2,y3,y4,y5⟩ := uh HC'
    exact ⟨⟨(hW.cell hlb).trans x1,(hW.cell hlb).trans x2,(hW.cell hlb).trans x3,(hW.cell hlb).trans x4,(hW.cell hlb).trans x5⟩,(hW.cell hlb').trans y1,(hW.cell hlb').trans y2,(hW.cell hlb').trans y3,(hW.cell hlb').trans y4,(hW.cell hlb').trans y5⟩
   go_wp2_with fail
   go_region_held3 (fun w' => (w'.cell? ⟨ba,oa + k * 5,none⟩ = some (.string u.topic) /\ w'.cell? ⟨ba,oa + k * 5 + 1,none⟩ = some (.string u.payload) /\ w'.cell? ⟨ba,oa + k * 5 + 2,none⟩ = some (.int .i64 u.qos) /\ w'.cell? ⟨ba,oa + k * 5 + 3,none⟩ = some (.bool u.retain) /\ w'.cell? ⟨ba,oa + k * 5 + 4,none⟩ = some (.slice ao n cap)) /\ (w'.cell? ⟨bb,ob + k * 5,none⟩ = some (.string v.topic) /\ w'.cell? ⟨bb,ob + k * 5 + 1,none⟩ = some (.string v.payload) /\ w'.cell? ⟨bb,ob + k * 5 + 2,none⟩ = some (.int .i64 v.qos) /\ w'.cell? ⟨bb,ob + k * 5 + 3,none⟩ = some (.bool v.retain) /\ w'.cell? ⟨bb,ob + k * 5 + 4,none⟩ = some (.slice ao' n' cap')))
    (first | exact (uh HK) _ (below_drewN (Below.refl _ _) 1) | exact (uh HK) _ (uh HB2) | exact (uh HK) _ (Below.refl _ _))
    (first | (go_at_call 73; refine (eqw_any u.topic v.topic u.payload v.payload u.qos v.qos u.retain v.retain ao ao' n n' cap cap' u.props v.props _ ((uh HP).below (below_drewN (Below.refl _ _) 1)) ((uh HP').below (below_drewN (Below.refl _ _) 1)) hq).mono ?_; rintro e w2 ⟨⟨bo,rfl,hbo⟩,hb2⟩; have HBO := zh hbo; have HB2 : Hid (Below wr.heap.size wr w2) := (below_drewN (Below.refl _ _) 1).trans hb2; clear hbo hb2) | fail)
   have HB3 : Hid (Below w.heap.size w w2) := (uh HBEL).trans ((uh HB2).mono (uh HBEL).size)
   clear HK HC HC' x1 x2 x3 x4 x5 y1 y2 y3 y4 y5 HB2
   have HUV : Hid ((bo = true) ↔ u = v) := (uh HBO).trans (uh HWL).symm
   clear HBO HWL
   cases bo
   ·have HNE : Hid (l.getD k wl0 ≠ m.getD k wl0) := fun e => by
     rw [uh HU,uh HV] at e
     have := (uh HUV).2 e
     cases this
    go_wp2
    go_ret
    refine ⟨⟨_,rfl,?_⟩,uh HB3⟩
    constructor
    ·intro h; cases h
    ·intro h; exact absurd (h k hlt) (uh HNE)
   ·have HE : Hid (l.getD k wl0 = m.getD k wl0) := by
     show _ = _
     rw [uh HU,uh HV]
     exact (uh HUV).1 rfl
    go_wp2
    go_roundw
    case rel => exact ⟨k + 1,by omega,by go_num,fun j hj => by
     rcases Nat.lt_succ_iff_lt_or_eq.1 hj with h | h
     ·exact (uh HALL) j h
     ·rw [h]; exact uh HE,HB3⟩
    case measure => simp [intOf]; omega
  ·go_wp2
   go_ret
   exact ⟨⟨_,rfl,fun _ j hj => (uh HALL) j (by omega),fun _ => rfl⟩,uh HBEL⟩
theorem eqws_len (ao bo : Option Addr) (n m ca cb : Nat) (w : World) (h : n ≠ m) :
  Calls Tryz.prog 33 #[.slice ao n ca,.slice bo m cb] w fun e w' => e = .returned (.bool false) /\ w' = w := by
 have h1 : ((n : Int) == (m : Int)) = false := beq_eq_false_iff_ne.2 (by omega)
 go_enter Tryz.func33,Tryz.ntmps33
 go_wp2
 go_ret
 exact ⟨rfl,rfl⟩
theorem eqws_nil (ao bo : Option Addr) (ca cb : Nat) (w : World) :
  Calls Tryz.prog 33 #[.slice ao 0 ca,.slice bo 0 cb] w fun e w' => e = .returned (.bool true) /\ w' = w := by
 go_enter Tryz.func33,Tryz.ntmps33
 go_wp2
 refine wp_loop_rounds 1 ?_
 rw [rounds_succ]
 go_wp2
 go_ret
 exact ⟨rfl,rfl⟩
def Wls (w : World) (v : Value) (l : List Wl) : Prop := ∃ ao cap,v = .slice ao l.length cap /\ (l.length <= cap /\ cap <= maxLen) /\ (l = [] \/ ∃ b off,ao = some ⟨b,off,none⟩ /\ WlAt w b off l)
theorem wl_ext {l m : List Wl} (hl : l.length = m.length) (h : ∀ j,j < l.length -> l.getD j wl0 = m.getD j wl0) : l = m := by
 apply List.ext_getElem hl
 intro i h1 h2
 have := h i h1
 rw [List.getD_eq_getElem?_getD,List.getD_eq_getElem?_getD,List.getElem?_eq_getElem h1,List.getElem?_eq_getElem h2] at this
 exact this
theorem eqws_any (va vb : Value) (l m : List Wl) (w : World) (ha : Wls w va l) (hb : Wls w vb m) (hmx : l.length <= 1000000000) :
  Calls Tryz.prog 33 #[va,vb] w fun e w' => (∃ b,e = .returned (.bool b) /\ (b = true ↔ l = m)) /\ Below w.heap.size w w' := by
 obtain ⟨ao,ca,rfl,_,ha⟩ := ha
 obtain ⟨bo,cb,rfl,_,hb⟩ := hb
 by_cases hl : l.length = m.length
 ·rcases ha with rfl | ⟨ba,oa,rfl,hca⟩
  ·obtain rfl : m = [] := List.length_eq_zero_iff.1 hl.symm
   refine (eqws_nil _ _ _ _ _).mono ?_
   rintro e w' ⟨rfl,rfl⟩
   exact ⟨⟨true,rfl,by simp⟩,Below.refl _ _⟩
  ·rcases hb with rfl | ⟨bb,ob,rfl,hcb⟩
   ·obtain rfl : l = [] := List.length_eq_zero_iff.1 hl
    refine (eqws_nil _ _ _ _ _).mono ?_
    rintro e w' ⟨rfl,rfl⟩
    exact ⟨⟨true,rfl,by simp⟩,Below.refl _ _⟩
   ·rw [<- hl]
    refine (eqws_core ba oa bb ob ca cb l m l.length w rfl hl.symm hmx hca hcb).mono ?_
    rintro e w' ⟨⟨b,rfl,hbb⟩,hbel⟩
    exact ⟨⟨b,rfl,hbb.trans ⟨fun h => wl_ext hl h,fun h j _ => by rw [h]⟩⟩,hbel⟩
 ·refine (eqws_len ao bo l.length m.length ca cb w hl).mono ?_
  rintro e w' ⟨rfl,rfl⟩
  exact ⟨⟨false,rfl,by constructor; (intro h; cases h); (intro h; exact absurd (by rw [h]) hl)⟩,Below.refl _ _⟩
theorem Mean.bx {w w' : World} {R B : Nat} {may : Nat -> Prop} {p : Pkv} {P : Pa} (h : Mean w B p P) (hx : BX R may w w') (hR : R < B) : Mean w' B p P :=
 ⟨h.sc,owns_bx h.props hx hR,by
  obtain ⟨ws,h1,h2,h3⟩ := h.wills
  exact ⟨ws,owns_bx h1 hx hR,h2,fun i a b ha hb => by
   obtain ⟨k1,k2,k3,k4,k5⟩ := h3 i a b ha hb
   exact ⟨k1,k2,k3,k4,owns_bx k5 hx hR⟩⟩,owns_bx h.user hx hR,owns_bx h.pass hx hR,owns_bx h.subs hx hR,owns_bx h.filters hx hR,owns_bx h.codes hx hR⟩
abbrev pkz : Pkv := pk0 0 false 0 false
theorem Pk.far {w w' : World} {R A : Nat} {may : Nat -> Prop} {q : Pkv} (h : Pk w A q) (hx : BX R may w w') (hA : A ≠ R) : Pk w' A q := fun j hj =>
 have hb := hx.block A (cell_lt (h 0 (by omega)).1) hA
 ⟨(World.cell?_of_block hb).trans (h j hj).1,(World.frozen?_of_block hb).trans (h j hj).2⟩
theorem Mean.base {w : World} {B B' : Nat} {p : Pkv} {P : Pa} (h : Mean w B p P) (hB : B' <= B) : Mean w B' p P :=
 ⟨h.sc,owns_mono h.props hB,by
  obtain ⟨ws,h1,h2,h3⟩ := h.wills
  exact ⟨ws,owns_mono h1 hB,h2,fun i a b ha hb => by
   obtain ⟨k1,k2,k3,k4,k5⟩ := h3 i a b ha hb
   exact ⟨k1,k2,k3,k4,owns_mono k5 hB⟩⟩,owns_mono h.user hB,owns_mono h.pass hB,owns_mono h.subs hB,owns_mono h.filters hB,owns_mono h.codes hB⟩
theorem owns_cells {w : World} {A : Nat} {vs : List Value} {o B : Nat} {e : TypeId} {s : Nat} {v : Value} {n : Nat} {xs : List Value} (h : w.ownsRow B e s v n xs) (hA : A < B) : (w.setCells A o vs).ownsRow B e s v n xs := by
 induction vs generalizing w o with
 | nil => exact h
 | cons u vs ih =>
  rw [World.setCells]
  exact ih (owns_out h hA)
theorem Mean.cells {w : World} {A B : Nat} {vs : List Value} {p : Pkv} {P : Pa} (h : Mean w B p P) (hA : A < B) : Mean (w.setCells A 0 vs) B p P :=
 ⟨h.sc,owns_cells h.props hA,by
  obtain ⟨ws,h1,h2,h3⟩ := h.wills
  exact ⟨ws,owns_cells h1 hA,h2,fun i a b ha hb => by
   obtain ⟨k1,k2,k3,k4,k5⟩ := h3 i a b ha hb
   exact ⟨k1,k2,k3,k4,owns_cells k5 hA⟩⟩,owns_cells h.user hA,owns_cells h.pass hA,owns_cells h.subs hA,owns_cells h.filters hA,owns_cells h.codes hA⟩
end Go.Proofs.YtemedclhglkfjaaGreatDoor.K
