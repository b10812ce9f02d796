/- Proved here: helpers, one text behind the other. -/
import Derived.Test.YtemedclhglkfjaaGreatDoorM33
import Derived.Test.YtemedclhglkfjaaGreatDoorZKTk
import Derived.Laws.AppendOwn
import Derived.Test.YtemedclhglkfjaaGreatDoorM22
set_option maxHeartbeats 20000000
namespace Go.Proofs.YtemedclhglkfjaaGreatDoor.K
open Go.RowKit
set_option maxRecDepth 100000
def Sb.cells (s : Sb) : List Value := [.string s.filter,.int .i64 s.qos,.bool s.nolocal,.bool s.aspub,.int .i64 s.handling]
def scs (d : List Sb) : List Value := d.flatMap Sb.cells
abbrev sb0 : Sb := ⟨⟨#[]⟩,0,false,false,0⟩
def SbAt (w : World) (b off : Nat) (l : List Sb) : Prop := ∀ k,k < l.length -> w.cell? ⟨b,off + k * 5,none⟩ = some (.string (l.getD k sb0).filter) /\ w.cell? ⟨b,off + k * 5 + 1,none⟩ = some (.int .i64 (l.getD k sb0).qos) /\ w.cell? ⟨b,off + k * 5 + 2,none⟩ = some (.bool (l.getD k sb0).nolocal) /\ w.cell? ⟨b,off + k * 5 + 3,none⟩ = some (.bool (l.getD k sb0).aspub) /\ w.cell? ⟨b,off + k * 5 + 4,none⟩ = some (.int .i64 (l.getD k sb0).handling)
def Sbs (w : World) (v : Value) (l : List Sb) : Prop := ∃ ao cap,v = .slice ao l.length cap /\ (l.length <= cap /\ cap <= maxLen) /\ (l = [] \/ ∃ b off,ao = some ⟨b,off,none⟩ /\ SbAt w b off l)
theorem Tryz.eqgB : Tryz.prog.eqGuardType Tryz.prog.depth 54 = false := by kernel_rfl
theorem Tryz.stoodB : Tryz.prog.stoodInHeld 54 = false := by kernel_rfl
theorem Tryz.undB : Tryz.prog.underlying 54 = some (.struct (Tryz.prog.fieldsOf 54)) := by kernel_rfl
def sameB (p q : Sb) : Bool := (p.filter.toList == q.filter.toList && p.qos == q.qos && p.nolocal == q.nolocal && p.aspub == q.aspub && p.handling == q.handling)
theorem neqB (f f' : ByteArray) (q q' h h' : Int) (n n' a a' : Bool) (w : World) : (binOp .neq 54 (.agg #[.string f,.int .i64 q,.bool n,.bool a,.int .i64 h]) (.agg #[.string f',.int .i64 q',.bool n',.bool a',.int .i64 h'])).run Tryz.prog w = .ok (.bool (!(sameB ⟨f,q,n,a,h⟩ ⟨f',q',n',a',h'⟩))) w := by
 rw [run_neq_struct,run_equalIn_struct w 9999 54 _ _ Tryz.undB Tryz.stoodB]
 rw [show Tryz.prog.fieldsOf 54 = _ from rfl]
 simp [Program.fieldsOf,Tryz.underlying54,Op.eqFields,go_sem]
 unfold sameB
 by_cases h1 : f.toList = f'.toList
 ·by_cases h2 : q = q'
  ·by_cases h3 : n = n'
   ·by_cases h4 : a = a'
    ·by_cases h5 : h = h'
     ·simp [h1,h2,h3,h4,h5]
     ·simp [h1,h2,h3,h4,h5]
    ·simp [h1,h2,h3,h4]
   ·simp [h1,h2,h3]
  ·simp [h1,h2]
 ·simp [h1]
theorem sameB_iff (p q : Sb) : sameB p q = true ↔ p = q := by
 obtain ⟨a,b,c,d,e⟩ := p
 obtain ⟨a',b',c',d',e'⟩ := q
 unfold sameB
 constructor
 ·intro h
  simp only [Bool.and_eq_true,beq_iff_eq] at h
  obtain ⟨⟨⟨⟨h1,h2⟩,h3⟩,h4⟩,h5⟩ := h
  rw [text_ext h1,h2,h3,h4,h5]
 ·rintro h
  cases h
  simp
theorem eqb_core (ba oa bb ob ca cb : Nat) (l m : List Sb) (len : Nat) (w : World) (hl : l.length = len) (hm : m.length = len) (hmx : len <= 1000000000) (ha : SbAt w ba oa l) (hb : SbAt w bb ob m) :
  Calls Tryz.prog 35 #[.slice (some ⟨ba,oa,none⟩) len ca,.slice (some ⟨bb,ob,none⟩) len cb] w fun e w' => (∃ b,e = .returned (.bool b) /\ (b = true ↔ ∀ j,j < len -> l.getD j sb0 = m.getD j sb0)) /\ ∃ k,w' = w.drewN k := by
 have HL := zh hl
 have HM := zh hm
 have HA := zh ha
 have HB := zh hb
 clear hl hm ha hb
 go_enter Tryz.func35,Tryz.ntmps35
 go_wp2
 go_loopw [5] (fun i wr => ∃ k q : Nat,k <= len /\ i = .int .i64 k /\ wr = w.drewN q /\ Hid (∀ j,j < k -> l.getD j sb0 = m.getD j sb0)) (fun i _ => len - (intOf i).toNat)
 case atStart => exact ⟨0,0,Nat.zero_le _,rfl,rfl,fun j hj => absurd hj (Nat.not_lt_zero j)⟩
 case round =>
  obtain ⟨k,q,hk,rfl,rfl,HALL⟩ := hrel
  by_cases hlt : k < len
  ·obtain ⟨h0,h1,h2,h3,h4⟩ := (uh HA) k (by rw [uh HL]; exact hlt)
   obtain ⟨g0,g1,g2,g3,g4⟩ := (uh HB) k (by rw [uh HM]; exact hlt)
   obtain ⟨x1,x2,x3,x4,x5,hp⟩ : ∃ a b c d e,l.getD k sb0 = ⟨a,b,c,d,e⟩ := ⟨_,_,_,_,_,rfl⟩
   obtain ⟨y1,y2,y3,y4,y5,hp'⟩ : ∃ a b c d e,m.getD k sb0 = ⟨a,b,c,d,e⟩ := ⟨_,_,_,_,_,rfl⟩
   rw [hp] at h0 h1 h2 h3 h4
   rw [hp'] at g0 g1 g2 g3 g4
   simp only at h0 h1 h2 h3 h4 g0 g1 g2 g3 g4
   have HP := zh hp
   have HP' := zh hp'
   clear hp hp'
   have qg := Tryz.eqgB
   have qn := fun W => neqB x1 y1 x2 y2 x5 y5 x3 y3 x4 y4 W
   generalize hsb : sameB ⟨x1,x2,x3,x4,x5⟩ ⟨y1,y2,y3,y4,y5⟩ = sb at qn
   have HSB := zh hsb
   clear hsb
   cases sb
   ·have HNE : Hid (l.getD k sb0 ≠ m.getD k sb0) := fun e => by
     rw [uh HP,uh HP'] at e
     have := (sameB_iff _ _).2 e
     rw [uh HSB] at this
     cases this
    go_wp2
    go_quiet (fail)
    go_wp2
    go_ret
    refine ⟨⟨_,rfl,?_⟩,q + nq,drewN_drewN _ _ _⟩
    constructor
    ·intro h; cases h
    ·intro h; exact absurd (h k hlt) (uh HNE)
   ·have HE : Hid (l.getD k sb0 = m.getD k sb0) := by
     show _ = _
     rw [uh HP,uh HP']
     exact (sameB_iff _ _).1 (uh HSB)
    go_wp2
    go_quiet (fail)
    go_wp2
    go_roundw
    case rel => exact ⟨k + 1,_,by omega,by go_num,rfl,fun j hj => by
     rcases Nat.lt_succ_iff_lt_or_eq.1 hj with h | h
     ·exact (uh HALL) j h
     ·rw [h]; exact uh HE⟩
    case measure => simp [intOf]; omega
  ·go_wp2
   go_ret
   exact ⟨⟨_,rfl,fun _ j hj => (uh HALL) j (by omega),fun _ => rfl⟩,_,rfl⟩
theorem eqb_len (ao bo : Option Addr) (n m ca cb : Nat) (w : World) (h : n ≠ m) :
  Calls Tryz.prog 35 #[.slice ao n ca,.slice bo m cb] w fun e w' => e = .returned (.bool false) /\ w' = w := by
 have h1 : ((n : Int) == (m : Int)) = false := beq_eq_false_iff_ne.2 (by omega)
 go_enter Tryz.func35,Tryz.ntmps35
 go_wp2
 go_ret
 exact ⟨rfl,rfl⟩
theorem eqb_nil (ao bo : Option Addr) (ca cb : Nat) (w : World) :
  Calls Tryz.prog 35 #[.slice ao 0 ca,.slice bo 0 cb] w fun e w' => e = .returned (.bool true) /\ w' = w := by
 go_enter Tryz.func35,Tryz.ntmps35
 go_wp2
 refine wp_loop_rounds 1 ?_
 rw [rounds_succ]
 go_wp2
 go_ret
 exact ⟨rfl,rfl⟩
theorem sb_ext {l m : List Sb} (hl : l.length = m.length) (h : ∀ j,j < l.length -> l.getD j sb0 = m.getD j sb0) : l = m := by
 apply List.ext_getElem hl
 intro i h1 h2
 have := h i h1
 rw [List.getD_eq_getElem?_getD,List.getD_eq_getElem?_getD,List.getElem?_eq_getElem h1,List.getElem?_eq_getElem h2] at this
 exact this
theorem eqb_any (va vb : Value) (l m : List Sb) (w : World) (ha : Sbs w va l) (hb : Sbs w vb m) (hmx : l.length <= 1000000000) :
  Calls Tryz.prog 35 #[va,vb] w fun e w' => (∃ b,e = .returned (.bool b) /\ (b = true ↔ l = m)) /\ ∃ k,w' = w.drewN k := by
 obtain ⟨ao,ca,rfl,_,ha⟩ := ha
 obtain ⟨bo,cb,rfl,_,hb⟩ := hb
 by_cases hl : l.length = m.length
 ·rcases ha with rfl | ⟨ba,oa,rfl,hca⟩
  ·obtain rfl : m = [] := List.length_eq_zero_iff.1 hl.symm
   refine (eqb_nil _ _ _ _ _).mono ?_
   rintro e w' ⟨rfl,rfl⟩
   exact ⟨⟨true,rfl,by simp⟩,0,rfl⟩
  ·rcases hb with rfl | ⟨bb,ob,rfl,hcb⟩
   ·obtain rfl : l = [] := List.length_eq_zero_iff.1 hl
    refine (eqb_nil _ _ _ _ _).mono ?_
    rintro e w' ⟨rfl,rfl⟩
    exact ⟨⟨true,rfl,by simp⟩,0,rfl⟩
   ·rw [<- hl]
    refine (eqb_core ba oa bb ob ca cb l m l.length w rfl hl.symm hmx hca hcb).mono ?_
    rintro e w' ⟨⟨b,rfl,hbb⟩,k,rfl⟩
    exact ⟨⟨b,rfl,hbb.trans ⟨fun h => sb_ext hl h,fun h j _ => by rw [h]⟩⟩,k,rfl⟩
 ·refine (eqb_len ao bo l.length m.length ca cb w hl).mono ?_
  rintro e w' ⟨rfl,rfl⟩
  exact ⟨⟨false,rfl,by constructor; (intro h; cases h); (intro h; exact absurd (by rw [h]) hl)⟩,0,rfl⟩
end Go.Proofs.YtemedclhglkfjaaGreatDoor.K
