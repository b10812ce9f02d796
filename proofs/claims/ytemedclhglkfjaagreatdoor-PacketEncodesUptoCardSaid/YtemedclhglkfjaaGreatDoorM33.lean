/- Proved here: helpers, one text behind the other. -/
import Derived.Test.YtemedclhglkfjaaGreatDoorM31
import Derived.Test.YtemedclhglkfjaaGreatDoorM21
import Derived.Test.YtemedclhglkfjaaGreatDoorM28
import Derived.Test.YtemedclhglkfjaaGreatDoorM17
import Derived.Test.YtemedclhglkfjaaGreatDoorM26
import Derived.Test.YtemedclhglkfjaaGreatDoorZKTk
import Derived.Test.YtemedclhglkfjaaGreatDoorM14
set_option maxHeartbeats 20000000
namespace Go.Proofs.YtemedclhglkfjaaGreatDoor
open Go.RowKit
set_option maxRecDepth 100000
def lenOf : Value -> Nat
 | .slice _ n _ => n
 | _ => 0
end Go.Proofs.YtemedclhglkfjaaGreatDoor
namespace Go.Proofs.YtemedclhglkfjaaGreatDoor.K
open Go.RowKit
set_option maxRecDepth 100000
def bindR {α β : Type} (f : List Int -> Option (α × List Int)) (g : α -> List Int -> Option (β × List Int)) (l : List Int) : Option (β × List Int) := (f l).bind fun r => g r.1 r.2
def pureR {α : Type} (x : α) (l : List Int) : Option (α × List Int) := some (x,l)
def mustR (b : Bool) (l : List Int) : Option (Unit × List Int) := if b then some ((),l) else none
theorem Stp.bind {α β : Type} {f : List Int -> Option (α × List Int)} {g : α -> List Int -> Option (β × List Int)} {st st1 st2 : Option (List Int)} {x : α} {y : β} (h1 : Stp f st x st1) (h2 : Stp (g x) st1 y st2) : Stp (bindR f g) st y st2 := by
 cases st with
 | none =>
  obtain rfl : st1 = none := h1
  exact h2
 | some l =>
  unfold Stp bindR
  simp only
  unfold Stp at h1
  simp only at h1
  cases hf : f l with
  | none =>
   rw [hf] at h1
   obtain rfl : st1 = none := h1
   exact h2
  | some r =>
   obtain ⟨a,l'⟩ := r
   rw [hf] at h1
   obtain ⟨rfl,rfl⟩ := h1
   exact h2
theorem Stp.pure {α : Type} (x : α) (st : Option (List Int)) : Stp (pureR x) st x st := by
 cases st with
 | none => rfl
 | some l => exact ⟨rfl,rfl⟩
theorem Stp.must (b : Bool) (st : Option (List Int)) : Stp (mustR b) st () (if b then st else none) := by
 cases st with
 | none => cases b <;> rfl
 | some l =>
  cases b
  ·rfl
  ·exact ⟨rfl,rfl⟩
theorem Stp.congr {α : Type} {f g : List Int -> Option (α × List Int)} (h : ∀ l,f l = g l) {st st' : Option (List Int)} {x : α} (hs : Stp f st x st') : Stp g st x st' := by
 obtain rfl : f = g := funext h
 exact hs
structure Sb where
 filter : ByteArray
 qos : Int
 nolocal : Bool
 aspub : Bool
 handling : Int
abbrev Sb.val (s : Sb) : Value := .agg #[.string s.filter,.int .i64 s.qos,.bool s.nolocal,.bool s.aspub,.int .i64 s.handling]
def btest (x k : Int) : Bool := decide (x / k % 2 = 1)
def many {α : Type} (f : List Int -> Option (α × List Int)) : Nat -> List Int -> Option (List α × List Int)
 | 0,l => if l = [] then some ([],[]) else none
 | n + 1,l => if l = [] then some ([],[]) else (f l).bind fun r => (many f n r.2).map fun s => (r.1 :: s.1,s.2)
def manyR {α : Type} (f : List Int -> Option (α × List Int)) (l : List Int) : Option (List α × List Int) := many f l.length l
theorem many_nil {α : Type} (f : List Int -> Option (α × List Int)) (n : Nat) : many f n [] = some ([],[]) := by cases n <;> simp [many]
def Acc {α : Type} (f : List Int -> Option (α × List Int)) (st0 : Option (List Int)) (d : List α) (st : Option (List Int)) : Prop :=
 match st0 with
 | none => st = none
 | some l0 => match st with
  | none => manyR f l0 = none
  | some l => manyR f l0 = (manyR f l).map fun s => (d ++ s.1,s.2)
theorem Acc.done {α : Type} {f : List Int -> Option (α × List Int)} {st0 st : Option (List Int)} {d : List α} (h : Acc f st0 d st) (he : st = none \/ st = some []) : Stp (manyR f) st0 d st := by
 cases st0 with
 | none => exact h
 | some l0 =>
  rcases he with rfl | rfl
  ·have h : manyR f l0 = none := h
   simp [Stp,h]
  ·have h : manyR f l0 = (manyR f []).map fun s => (d ++ s.1,s.2) := h
   rw [show manyR f [] = some ([],[]) from many_nil f 0] at h
   simp [Stp,h]
theorem RSX.grown {w0 w w' : World} {R : Nat} {X : Nat -> Prop} {st : Option (List Int)} {row : Option Nat} (h : RSX w0 w R X st) (hg : w.grownBy w' row) (hX : ∀ g,row = some g -> X g) (hR : row ≠ some R) (h0 : ∀ g,row = some g -> w0.heap.size <= g) : RSX w0 w' R X st := by
 obtain ⟨hXX,⟨x,hd⟩,bv,l,E,⟨r1,r2,r3,r4⟩,hb,hw,hR0,hst⟩ := h
 have hblk : w'.heap[R]? = w.heap[R]? := hg.block R (cell_lt hd) (fun e => hR e.symm)
 have hc : ∀ j,w'.cell? ⟨R,j,none⟩ = w.cell? ⟨R,j,none⟩ := fun j => World.cell?_of_block hblk
 have hf : ∀ j,w'.frozen? ⟨R,j,none⟩ = w.frozen? ⟨R,j,none⟩ := fun j => World.frozen?_of_block hblk
 refine ⟨xs_grow hXX hg.size,⟨x,(hc 1).trans hd⟩,bv,l,E,⟨(hc 19).trans r1,(hf 19).trans r2,(hc 20).trans r3,(hf 20).trans r4⟩,hb,⟨hg.os.trans hw.os,hg.tape.trans hw.tape,hg.output.trans hw.output,Nat.le_trans hw.size hg.size,fun k hk => (hg.block k (Nat.lt_of_lt_of_le hk hw.size) (fun e => by have := h0 k e.symm; omega)).trans (hw.block k hk)⟩,hR0,?_⟩
 have key : ∀ {d : Nat} {v : Value} {n : Int},ErO w X d v n -> ErO w' X d v n := by
  intro d
  induction d with
  | zero => intro v n h; exact h
  | succ d ih =>
   rintro v n ⟨b,u,h1,hR,h2,h3⟩
   exact ⟨b,u,h1,hR,(World.cell?_of_block (a := ⟨b,1,none⟩) (hg.block b (cell_lt h2) (fun e => hR (hX b e.symm)))).trans h2,ih h3⟩
 rcases hst with h | ⟨h,d,n,hd,he⟩
 ·exact .inl h
 ·exact .inr ⟨h,d,n,hd,key he⟩
theorem BX.grown {R : Nat} {may : Nat -> Prop} {a b c : World} {row : Option Nat} (h : BX R may a b) (hg : b.grownBy c row) (hrow : ∀ g,row = some g -> a.heap.size <= g) (hR : R < a.heap.size) : BX R may a c := by
 have hblk : c.heap[R]? = b.heap[R]? := hg.block R (Nat.lt_of_lt_of_le hR h.size) (fun e => by have := hrow R e.symm; omega)
 exact h.trans' ⟨hg.os,hg.tape,hg.output,hg.size,fun k hk _ => hg.block k (Nat.lt_of_lt_of_le hk h.size) (fun e => by have := hrow k e.symm; omega),fun j _ => World.cell?_of_block hblk,fun j => World.frozen?_of_block hblk⟩
theorem Pk.grown {w w' : World} {R : Nat} {p : Pkv} {row : Option Nat} (h : Pk w R p) (hg : w.grownBy w' row) (hR : row ≠ some R) : Pk w' R p := fun j hj => by
 have hblk : w'.heap[R]? = w.heap[R]? := hg.block R (cell_lt (h 0 (by omega)).1) (fun e => hR e.symm)
 exact ⟨(World.cell?_of_block hblk).trans (h j hj).1,(World.frozen?_of_block hblk).trans (h j hj).2⟩
structure Wv where
 topic : ByteArray
 payload : ByteArray
 qos : Int
 retain : Bool
 props : Sl
def Wv.cells (u : Wv) : List Value := [.string u.topic,.string u.payload,.int .i64 u.qos,.bool u.retain,u.props.val]
def wcs (ws : List Wv) : List Value := ws.flatMap Wv.cells
def Rw (w : World) (t : Sl) (s : Nat) (vs : List Value) : Prop := vs.length = t.n * s /\ (t.n <= t.cap /\ t.cap <= maxLen) /\ (t.n = 0 \/ ∃ b off,t.ao = some ⟨b,off,none⟩ /\ ∀ j,j < vs.length -> w.cell? ⟨b,off + j,none⟩ = vs[j]?)
theorem Rw.below {w w' : World} {t : Sl} {s : Nat} {vs : List Value} (h : Rw w t s vs) (hb : Below w.heap.size w w') : Rw w' t s vs := by
 obtain ⟨h1,h2,h3⟩ := h
 refine ⟨h1,h2,?_⟩
 rcases h3 with h3 | ⟨b,off,e,hc⟩
 ·exact .inl h3
 ·refine .inr ⟨b,off,e,fun j hj => ?_⟩
  have := hc j hj
  rw [List.getElem?_eq_getElem hj] at this
  rw [hb.cell (p := ⟨b,off + j,none⟩) (cell_lt this),List.getElem?_eq_getElem hj]
  exact this
theorem wcs_length (ws : List Wv) : (wcs ws).length = ws.length * 5 := by
 induction ws with
 | nil => rfl
 | cons u us ih => unfold wcs at *; simp only [List.flatMap_cons,List.length_append,ih,List.length_cons,Wv.cells,List.length_nil]; omega
theorem wcs_get (ws : List Wv) : ∀ (i : Nat) (u : Wv),ws[i]? = some u -> ∀ j,j < 5 -> (wcs ws)[i * 5 + j]? = u.cells[j]? := by
 induction ws with
 | nil => intro i u h; simp at h
 | cons v us ih =>
  intro i u h j hj
  cases i with
  | zero =>
   simp at h
   subst h
   unfold wcs
   rw [List.flatMap_cons,Nat.zero_mul,Nat.zero_add,List.getElem?_append_left (by simp [Wv.cells]; omega)]
  | succ i =>
   simp at h
   have := ih i u h j hj
   unfold wcs at *
   rw [List.flatMap_cons,List.getElem?_append_right (by simp [Wv.cells]; omega),<- this]
   congr 1
   simp [Wv.cells]
   omega
theorem Rw.will {w : World} {t : Sl} {ws : List Wv} (h : Rw w t 5 (wcs ws)) (i : Nat) (u : Wv) (hu : ws[i]? = some u) : ∃ b off,t.ao = some ⟨b,off,none⟩ /\ w.cell? ⟨b,off + i * 5,none⟩ = some (.string u.topic) /\ w.cell? ⟨b,off + i * 5 + 1,none⟩ = some (.string u.payload) /\ w.cell? ⟨b,off + i * 5 + 2,none⟩ = some (.int .i64 u.qos) /\ w.cell? ⟨b,off + i * 5 + 3,none⟩ = some (.bool u.retain) /\ w.cell? ⟨b,off + i * 5 + 4,none⟩ = some u.props.val := by
 obtain ⟨h1,h2,h3⟩ := h
 have hi : i < ws.length := (List.getElem?_eq_some_iff.1 hu).1
 rw [wcs_length] at h1
 rcases h3 with h3 | ⟨b,off,e,hc⟩
 ·omega
 ·refine ⟨b,off,e,?_⟩
  have k : ∀ j,j < 5 -> w.cell? ⟨b,off + (i * 5 + j),none⟩ = u.cells[j]? := fun j hj => (hc (i * 5 + j) (by rw [wcs_length]; omega)).trans (wcs_get ws i u hu j hj)
  exact ⟨k 0 (by omega),(by have := k 1 (by omega); rw [<- Nat.add_assoc] at this; exact this),(by have := k 2 (by omega); rw [<- Nat.add_assoc] at this; exact this),(by have := k 3 (by omega); rw [<- Nat.add_assoc] at this; exact this),(by have := k 4 (by omega); rw [<- Nat.add_assoc] at this; exact this)⟩
def cstep (f : Int) (u : Wv) : Int := bits .or .i64 f (bits .or .i64 (bits .or .i64 4 (fv u.retain 32)) (IntKind.i64.wrap (u.qos * 8)))
def cfl0 (nu np : Nat) (clean : Bool) : Int := bits .or .i64 (bits .or .i64 (fv (decide (0 < nu)) 128) (fv (decide (0 < np)) 64)) (fv clean 2)
def cfl (nu np : Nat) (clean : Bool) (ws : List Wv) : Int := ws.foldl cstep (cfl0 nu np clean)
def cok0 (nw nu np : Nat) : Bool := decide (nw <= 1) && decide (nu <= 1) && decide (np <= 1)
def cok (nu np : Nat) (ws : List Wv) : Bool := cok0 ws.length nu np && ws.all fun u => mq u.qos
theorem connectFlags_any (p : Pkv) (ws : List Wv) (w : World) (h : Rw w p.wills 5 (wcs ws)) (hu : p.user.n <= maxLen) (hp : p.pass.n <= maxLen) : Calls Tryz.prog 83 #[p.val] w fun e w' => e = .returned (.tuple #[.int .i64 (cfl p.user.n p.pass.n p.clean ws),.bool (cok p.user.n p.pass.n ws)]) /\ Below w.heap.size w w' := by
 obtain ⟨kind,dup,qos,retain,topic,id,payload,⟨a1,n1,c1⟩,client,clean,keep,⟨a2,n2,c2⟩,⟨a3,n3,c3⟩,⟨a4,n4,c4⟩,code,session,⟨a5,n5,c5⟩,⟨a6,n6,c6⟩,⟨a7,n7,c7⟩⟩ := p
 simp only at h hu hp
 dsimp only [Pkv.val,Sl.val]
 have hn : ws.length = n2 := by have := h.1; rw [wcs_length] at this; simp only at this; omega
 have hcap := h.2.1
 simp only at hcap
 unfold maxLen at hu hp hcap
 have HR := zh h
 clear h
 by_cases l1 : n2 <= 1
 ·by_cases l2 : n3 <= 1
  ·go_enter Tryz.func83,Tryz.ntmps83
   go_wp2_with fail
   refine wp_region_noPanic ?_
   refine wp_region_held_drew (S := (fun w' => w'.cell? ⟨w.heap.size,12,none⟩ = some (.slice a3 n3 c3) /\ w'.cell? ⟨w.heap.size,13,none⟩ = some (.slice a4 n4 c4) /\ w'.cell? ⟨w.heap.size,9,none⟩ = some (.bool clean))) (by kernel_rfl) (by simp) (fun hHeld => ?_)
   refine rtk 0 (h := ?_)
   refine rtk 1 (h := ?_)
   refine rtk 2 (h := ?_)
   refine rtk 3 (h := ?_)
   refine rtk 5 (h := ?_)
   refine rtk 6 (h := ?_)
   refine rtk 7 (h := ?_)
   refine rtk 8 (h := ?_)
   refine rtk 11 (h := ?_)
   refine rtk 12 (h := ?_)
   refine rcl 4 (h := fun K hK => ?_)
   go_simp
   refine (flag_is _ _ _).mono ?_
   rintro e w2 ⟨rfl,hw2⟩
   obtain rfl := hw2.symm
   clear hw2
   refine hK.out _ _ (by simp) (fun hHeld => ?_)
   clear hK K
   refine rcl 9 (h := fun K hK => ?_)
   go_simp
   refine (flag_is _ _ _).mono ?_
   rintro e w2 ⟨rfl,hw2⟩
   obtain rfl := hw2.symm
   clear hw2
   refine hK.out _ _ (by simp) (fun hHeld => ?_)
   clear hK K
   refine rtk 10 (h := ?_)
   refine rcl 13 (h := fun K hK => ?_)
   go_simp
   refine (flag_is _ _ _).mono ?_
   rintro e w2 ⟨rfl,hw2⟩
   obtain rfl := hw2.symm
   clear hw2
   refine hK.out _ _ (by simp) (fun hHeld => ?_)
   clear hK K
   refine rtk 14 (h := ?_)
   refine rcl 15 (h := fun K hK => ?_)
   go_simp
   refine hK.out _ _ (by simp) (fun hHeld => ?_)
   clear hK K
   refine wpAnyH_done (by kernel_rfl) ?_ _
   refine NoPanic.normal ?_
   go_wp2
   go_loopw [2,3,40] (fun f0 o0 i0 wr => ∃ (k : Nat) (bb : Bool) (F : Int),k <= n2 /\ i0 = .int .i64 k /\ f0 = .int .i64 F /\ o0 = .bool bb /\ Hid (F = (ws.take k).foldl cstep (cfl0 n3 n4 clean)) /\ Hid (bb = (cok0 n2 n3 n4 && (ws.take k).all fun u => mq u.qos)) /\ Below w.heap.size w wr) (fun _ _ i0 _ => n2 - (intOf i0).toNat)
   case atStart => exact ⟨0,_,_,Nat.zero_le _,rfl,rfl,rfl,rfl,by show _ = _; simp [cok0,l1,l2]; omega,by go_grown⟩
   case round =>
    obtain ⟨k,bb,F,hk,rfl,rfl,rfl,HF,HO,hbel⟩ := hrel
    by_cases hkn : k = n2
    ·subst hkn
     have e1 : ws.take k = ws := List.take_of_length_le (by omega)
     have HB := zh hbel
     clear hbel
     go_wp2
     go_returns
     rw [e1] at HF HO
     exact ⟨by rw [uh HF,uh HO,<- hn]; rfl,uh HB⟩
    ·have hlt : k < ws.length := by omega
     obtain ⟨u,hu⟩ : ∃ u,ws[k]? = some u := ⟨_,List.getElem?_eq_getElem hlt⟩
     have e1 : ws.take (k + 1) = ws.take k ++ [u] := by rw [List.take_add_one,hu]; rfl
     obtain ⟨b,off,ha,t0,t1,t2,t3,t4⟩ := ((uh HR).below (hbel)).will k u hu
     simp only at ha
     subst ha
     have hF : Hid (cstep F u = (ws.take (k + 1)).foldl cstep (cfl0 n3 n4 clean)) := by show _ = _; rw [e1,List.foldl_append,uh HF]; rfl
     have hO : (cok0 n2 n3 n4 && (ws.take (k + 1)).all fun u => mq u.qos) = (bb && mq u.qos) := by rw [e1,List.all_append,uh HO]; simp [Bool.and_assoc]
     have HO2 := zh hO
     clear hO
     have HB2 : Hid (Below w.heap.size w (wr.alloc (.cells #[.string u.topic,.string u.payload,.int .i64 u.qos,.bool u.retain,u.props.val] 52)).drew) := (hbel.alloc hbel.size _).drew
     cases bb
     ·go_wp2_with fail
      refine wp_region_noPanic ?_
      refine wp_region_held_drew (S := (fun w' => w'.cell? ⟨wr.heap.size,3,none⟩ = some (.bool u.retain) /\ w'.cell? ⟨wr.heap.size,2,none⟩ = some (.int .i64 u.qos))) (by kernel_rfl) (by simp) (fun hHeld => ?_)
      refine rtk 0 (h := ?_)
      refine rtk 1 (h := ?_)
      refine rtk 2 (h := ?_)
      refine rtk 5 (h := ?_)
      refine rtk 6 (h := ?_)
      refine rtk 7 (h := ?_)
      refine rcl 3 (h := fun K hK => ?_)
      go_simp
      refine (flag_is _ _ _).mono ?_
      rintro e w2 ⟨rfl,hw2⟩
      obtain rfl := hw2.symm
      clear hw2
      refine hK.out _ _ (by simp) (fun hHeld => ?_)
      clear hK K
      refine rtk 4 (h := ?_)
      refine rtk 8 (h := ?_)
      refine rtk 9 (h := ?_)
      refine rcl 10 (h := fun K hK => ?_)
      go_simp
      refine hK.out _ _ (by simp) (fun hHeld => ?_)
      clear hK K
      refine wpAnyH_done (by kernel_rfl) ?_ _
      refine NoPanic.normal ?_
      go_wp2
      go_roundw
      case rel => exact ⟨k + 1,false,_,by omega,by go_num,rfl,rfl,hF,by show _ = _; rw [uh HO2]; rfl,uh HB2⟩
      case measure => simp [intOf]; omega
     ·go_wp2_with fail
      refine (mayQoS_is u.qos _ rfl _).mono ?_
      rintro e w1 ⟨rfl,hw1⟩
      obtain rfl := hw1.symm
      clear hw1
      go_wp2_with fail
      refine wp_region_noPanic ?_
      refine wp_region_held_drew (S := (fun w' => w'.cell? ⟨wr.heap.size,3,none⟩ = some (.bool u.retain) /\ w'.cell? ⟨wr.heap.size,2,none⟩ = some (.int .i64 u.qos))) (by kernel_rfl) (by simp) (fun hHeld => ?_)
      refine rtk 0 (h := ?_)
      refine rtk 1 (h := ?_)
      refine rtk 2 (h := ?_)
      refine rtk 5 (h := ?_)
      refine rtk 6 (h := ?_)
      refine rtk 7 (h := ?_)
      refine rcl 3 (h := fun K hK => ?_)
      go_simp
      refine (flag_is _ _ _).mono ?_
      rintro e w2 ⟨rfl,hw2⟩
      obtain rfl := hw2.symm
      clear hw2
      refine hK.out _ _ (by simp) (fun hHeld => ?_)
      clear hK K
      refine rtk 4 (h := ?_)
      refine rtk 8 (h := ?_)
      refine rtk 9 (h := ?_)
      refine rcl 10 (h := fun K hK => ?_)
      go_simp
      refine hK.out _ _ (by simp) (fun hHeld => ?_)
      clear hK K
      refine wpAnyH_done (by kernel_rfl) ?_ _
      refine NoPanic.normal ?_
      go_wp2
      go_roundw
      case rel => exact ⟨k + 1,mq u.qos,_,by omega,by go_num,rfl,rfl,hF,by show _ = _; rw [uh HO2]; rfl,uh HB2⟩
      case measure => simp [intOf]; omega
  ·go_enter Tryz.func83,Tryz.ntmps83
   go_wp2_with fail
   refine wp_region_noPanic ?_
   refine wp_region_held_drew (S := (fun w' => w'.cell? ⟨w.heap.size,12,none⟩ = some (.slice a3 n3 c3) /\ w'.cell? ⟨w.heap.size,13,none⟩ = some (.slice a4 n4 c4) /\ w'.cell? ⟨w.heap.size,9,none⟩ = some (.bool clean))) (by kernel_rfl) (by simp) (fun hHeld => ?_)
   refine rtk 0 (h := ?_)
   refine rtk 1 (h := ?_)
   refine rtk 2 (h := ?_)
   refine rtk 3 (h := ?_)
   refine rtk 5 (h := ?_)
   refine rtk 6 (h := ?_)
   refine rtk 7 (h := ?_)
   refine rtk 8 (h := ?_)
   refine rtk 11 (h := ?_)
   refine rtk 12 (h := ?_)
   refine rcl 4 (h := fun K hK => ?_)
   go_simp
   refine (flag_is _ _ _).mono ?_
   rintro e w2 ⟨rfl,hw2⟩
   obtain rfl := hw2.symm
   clear hw2
   refine hK.out _ _ (by simp) (fun hHeld => ?_)
   clear hK K
   refine rcl 9 (h := fun K hK => ?_)
   go_simp
   refine (flag_is _ _ _).mono ?_
   rintro e w2 ⟨rfl,hw2⟩
   obtain rfl := hw2.symm
   clear hw2
   refine hK.out _ _ (by simp) (fun hHeld => ?_)
   clear hK K
   refine rtk 10 (h := ?_)
   refine rcl 13 (h := fun K hK => ?_)
   go_simp
   refine (flag_is _ _ _).mono ?_
   rintro e w2 ⟨rfl,hw2⟩
   obtain rfl := hw2.symm
   clear hw2
   refine hK.out _ _ (by simp) (fun hHeld => ?_)
   clear hK K
   refine rtk 14 (h := ?_)
   refine rcl 15 (h := fun K hK => ?_)
   go_simp
   refine hK.out _ _ (by simp) (fun hHeld => ?_)
   clear hK K
   refine wpAnyH_done (by kernel_rfl) ?_ _
   refine NoPanic.normal ?_
   go_wp2
   go_loopw [2,3,40] (fun f0 o0 i0 wr => ∃ (k : Nat) (bb : Bool) (F : Int),k <= n2 /\ i0 = .int .i64 k /\ f0 = .int .i64 F /\ o0 = .bool bb /\ Hid (F = (ws.take k).foldl cstep (cfl0 n3 n4 clean)) /\ Hid (bb = (cok0 n2 n3 n4 && (ws.take k).all fun u => mq u.qos)) /\ Below w.heap.size w wr) (fun _ _ i0 _ => n2 - (intOf i0).toNat)
   case atStart => exact ⟨0,_,_,Nat.zero_le _,rfl,rfl,rfl,rfl,by show _ = _; simp [cok0,l2],by go_grown⟩
   case round =>
    obtain ⟨k,bb,F,hk,rfl,rfl,rfl,HF,HO,hbel⟩ := hrel
    by_cases hkn : k = n2
    ·subst hkn
     have e1 : ws.take k = ws := List.take_of_length_le (by omega)
     have HB := zh hbel
     clear hbel
     go_wp2
     go_returns
     rw [e1] at HF HO
     exact ⟨by rw [uh HF,uh HO,<- hn]; rfl,uh HB⟩
    ·have hlt : k < ws.length := by omega
     obtain ⟨u,hu⟩ : ∃ u,ws[k]? = some u := ⟨_,List.getElem?_eq_getElem hlt⟩
     have e1 : ws.take (k + 1) = ws.take k ++ [u] := by rw [List.take_add_one,hu]; rfl
     obtain ⟨b,off,ha,t0,t1,t2,t3,t4⟩ := ((uh HR).below (hbel)).will k u hu
     simp only at ha
     subst ha
     have hF : Hid (cstep F u = (ws.take (k + 1)).foldl cstep (cfl0 n3 n4 clean)) := by show _ = _; rw [e1,List.foldl_append,uh HF]; rfl
     have hO : (cok0 n2 n3 n4 && (ws.take (k + 1)).all fun u => mq u.qos) = (bb && mq u.qos) := by rw [e1,List.all_append,uh HO]; simp [Bool.and_assoc]
     have HO2 := zh hO
     clear hO
     have HB2 : Hid (Below w.heap.size w (wr.alloc (.cells #[.string u.topic,.string u.payload,.int .i64 u.qos,.bool u.retain,u.props.val] 52)).drew) := (hbel.alloc hbel.size _).drew
     cases bb
     ·go_wp2_with fail
      refine wp_region_noPanic ?_
      refine wp_region_held_drew (S := (fun w' => w'.cell? ⟨wr.heap.size,3,none⟩ = some (.bool u.retain) /\ w'.cell? ⟨wr.heap.size,2,none⟩ = some (.int .i64 u.qos))) (by kernel_rfl) (by simp) (fun hHeld => ?_)
      refine rtk 0 (h := ?_)
      refine rtk 1 (h := ?_)
      refine rtk 2 (h := ?_)
      refine rtk 5 (h := ?_)
      refine rtk 6 (h := ?_)
      refine rtk 7 (h := ?_)
      refine rcl 3 (h := fun K hK => ?_)
      go_simp
      refine (flag_is _ _ _).mono ?_
      rintro e w2 ⟨rfl,hw2⟩
      obtain rfl := hw2.symm
      clear hw2
      refine hK.out _ _ (by simp) (fun hHeld => ?_)
      clear hK K
      refine rtk 4 (h := ?_)
      refine rtk 8 (h := ?_)
      refine rtk 9 (h := ?_)
      refine rcl 10 (h := fun K hK => ?_)
      go_simp
      refine hK.out _ _ (by simp) (fun hHeld => ?_)
      clear hK K
      refine wpAnyH_done (by kernel_rfl) ?_ _
      refine NoPanic.normal ?_
      go_wp2
      go_roundw
      case rel => exact ⟨k + 1,false,_,by omega,by go_num,rfl,rfl,hF,by show _ = _; rw [uh HO2]; rfl,uh HB2⟩
      case measure => simp [intOf]; omega
     ·go_wp2_with fail
      refine (mayQoS_is u.qos _ rfl _).mono ?_
      rintro e w1 ⟨rfl,hw1⟩
      obtain rfl := hw1.symm
      clear hw1
      go_wp2_with fail
      refine wp_region_noPanic ?_
      refine wp_region_held_drew (S := (fun w' => w'.cell? ⟨wr.heap.size,3,none⟩ = some (.bool u.retain) /\ w'.cell? ⟨wr.heap.size,2,none⟩ = some (.int .i64 u.qos))) (by kernel_rfl) (by simp) (fun hHeld => ?_)
      refine rtk 0 (h := ?_)
      refine rtk 1 (h := ?_)
      refine rtk 2 (h := ?_)
      refine rtk 5 (h := ?_)
      refine rtk 6 (h := ?_)
      refine rtk 7 (h := ?_)
      refine rcl 3 (h := fun K hK => ?_)
      go_simp
      refine (flag_is _ _ _).mono ?_
      rintro e w2 ⟨rfl,hw2⟩
      obtain rfl := hw2.symm
      clear hw2
      refine hK.out _ _ (by simp) (fun hHeld => ?_)
      clear hK K
      refine rtk 4 (h := ?_)
      refine rtk 8 (h := ?_)
      refine rtk 9 (h := ?_)
      refine rcl 10 (h := fun K hK => ?_)
      go_simp
      refine hK.out _ _ (by simp) (fun hHeld => ?_)
      clear hK K
      refine wpAnyH_done (by kernel_rfl) ?_ _
      refine NoPanic.normal ?_
      go_wp2
      go_roundw
      case rel => exact ⟨k + 1,mq u.qos,_,by omega,by go_num,rfl,rfl,hF,by show _ = _; rw [uh HO2]; rfl,uh HB2⟩
      case measure => simp [intOf]; omega
 ·go_enter Tryz.func83,Tryz.ntmps83
  go_wp2_with fail
  refine wp_region_noPanic ?_
  refine wp_region_held_drew (S := (fun w' => w'.cell? ⟨w.heap.size,12,none⟩ = some (.slice a3 n3 c3) /\ w'.cell? ⟨w.heap.size,13,none⟩ = some (.slice a4 n4 c4) /\ w'.cell? ⟨w.heap.size,9,none⟩ = some (.bool clean))) (by kernel_rfl) (by simp) (fun hHeld => ?_)
  refine rtk 0 (h := ?_)
  refine rtk 1 (h := ?_)
  refine rtk 2 (h := ?_)
  refine rtk 3 (h := ?_)
  refine rtk 5 (h := ?_)
  refine rtk 6 (h := ?_)
  refine rtk 7 (h := ?_)
  refine rtk 8 (h := ?_)
  refine rtk 11 (h := ?_)
  refine rtk 12 (h := ?_)
  refine rcl 4 (h := fun K hK => ?_)
  go_simp
  refine (flag_is _ _ _).mono ?_
  rintro e w2 ⟨rfl,hw2⟩
  obtain rfl := hw2.symm
  clear hw2
  refine hK.out _ _ (by simp) (fun hHeld => ?_)
  clear hK K
  refine rcl 9 (h := fun K hK => ?_)
  go_simp
  refine (flag_is _ _ _).mono ?_
  rintro e w2 ⟨rfl,hw2⟩
  obtain rfl := hw2.symm
  clear hw2
  refine hK.out _ _ (by simp) (fun hHeld => ?_)
  clear hK K
  refine rtk 10 (h := ?_)
  refine rcl 13 (h := fun K hK => ?_)
  go_simp
  refine (flag_is _ _ _).mono ?_
  rintro e w2 ⟨rfl,hw2⟩
  obtain rfl := hw2.symm
  clear hw2
  refine hK.out _ _ (by simp) (fun hHeld => ?_)
  clear hK K
  refine rtk 14 (h := ?_)
  refine rcl 15 (h := fun K hK => ?_)
  go_simp
  refine hK.out _ _ (by simp) (fun hHeld => ?_)
  clear hK K
  refine wpAnyH_done (by kernel_rfl) ?_ _
  refine NoPanic.normal ?_
  go_wp2
  go_loopw [2,3,40] (fun f0 o0 i0 wr => ∃ (k : Nat) (bb : Bool) (F : Int),k <= n2 /\ i0 = .int .i64 k /\ f0 = .int .i64 F /\ o0 = .bool bb /\ Hid (F = (ws.take k).foldl cstep (cfl0 n3 n4 clean)) /\ Hid (bb = (cok0 n2 n3 n4 && (ws.take k).all fun u => mq u.qos)) /\ Below w.heap.size w wr) (fun _ _ i0 _ => n2 - (intOf i0).toNat)
  case atStart => exact ⟨0,_,_,Nat.zero_le _,rfl,rfl,rfl,rfl,by show _ = _; simp [cok0,l1],by go_grown⟩
  case round =>
   obtain ⟨k,bb,F,hk,rfl,rfl,rfl,HF,HO,hbel⟩ := hrel
   by_cases hkn : k = n2
   ·subst hkn
    have e1 : ws.take k = ws := List.take_of_length_le (by omega)
    have HB := zh hbel
    clear hbel
    go_wp2
    go_returns
    rw [e1] at HF HO
    exact ⟨by rw [uh HF,uh HO,<- hn]; rfl,uh HB⟩
   ·have hlt : k < ws.length := by omega
    obtain ⟨u,hu⟩ : ∃ u,ws[k]? = some u := ⟨_,List.getElem?_eq_getElem hlt⟩
    have e1 : ws.take (k + 1) = ws.take k ++ [u] := by rw [List.take_add_one,hu]; rfl
    obtain ⟨b,off,ha,t0,t1,t2,t3,t4⟩ := ((uh HR).below (hbel)).will k u hu
    simp only at ha
    subst ha
    have hF : Hid (cstep F u = (ws.take (k + 1)).foldl cstep (cfl0 n3 n4 clean)) := by show _ = _; rw [e1,List.foldl_append,uh HF]; rfl
    have hO : (cok0 n2 n3 n4 && (ws.take (k + 1)).all fun u => mq u.qos) = (bb && mq u.qos) := by rw [e1,List.all_append,uh HO]; simp [Bool.and_assoc]
    have HO2 := zh hO
    clear hO
    have HB2 : Hid (Below w.heap.size w (wr.alloc (.cells #[.string u.topic,.string u.payload,.int .i64 u.qos,.bool u.retain,u.props.val] 52)).drew) := (hbel.alloc hbel.size _).drew
    cases bb
    ·go_wp2_with fail
     refine wp_region_noPanic ?_
     refine wp_region_held_drew (S := (fun w' => w'.cell? ⟨wr.heap.size,3,none⟩ = some (.bool u.retain) /\ w'.cell? ⟨wr.heap.size,2,none⟩ = some (.int .i64 u.qos))) (by kernel_rfl) (by simp) (fun hHeld => ?_)
     refine rtk 0 (h := ?_)
     refine rtk 1 (h := ?_)
     refine rtk 2 (h := ?_)
     refine rtk 5 (h := ?_)
     refine rtk 6 (h := ?_)
     refine rtk 7 (h := ?_)
     refine rcl 3 (h := fun K hK => ?_)
     go_simp
     refine (flag_is _ _ _).mono ?_
     rintro e w2 ⟨rfl,hw2⟩
     obtain rfl := hw2.symm
     clear hw2
     refine hK.out _ _ (by simp) (fun hHeld => ?_)
     clear hK K
     refine rtk 4 (h := ?_)
     refine rtk 8 (h := ?_)
     refine rtk 9 (h := ?_)
     refine rcl 10 (h := fun K hK => ?_)
     go_simp
     refine hK.out _ _ (by simp) (fun hHeld => ?_)
     clear hK K
     refine wpAnyH_done (by kernel_rfl) ?_ _
     refine NoPanic.normal ?_
     go_wp2
     go_roundw
     case rel => exact ⟨k + 1,false,_,by omega,by go_num,rfl,rfl,hF,by show _ = _; rw [uh HO2]; rfl,uh HB2⟩
     case measure => simp [intOf]; omega
    ·go_wp2_with fail
     refine (mayQoS_is u.qos _ rfl _).mono ?_
     rintro e w1 ⟨rfl,hw1⟩
     obtain rfl := hw1.symm
     clear hw1
     go_wp2_with fail
     refine wp_region_noPanic ?_
     refine wp_region_held_drew (S := (fun w' => w'.cell? ⟨wr.heap.size,3,none⟩ = some (.bool u.retain) /\ w'.cell? ⟨wr.heap.size,2,none⟩ = some (.int .i64 u.qos))) (by kernel_rfl) (by simp) (fun hHeld => ?_)
     refine rtk 0 (h := ?_)
     refine rtk 1 (h := ?_)
     refine rtk 2 (h := ?_)
     refine rtk 5 (h := ?_)
     refine rtk 6 (h := ?_)
     refine rtk 7 (h := ?_)
     refine rcl 3 (h := fun K hK => ?_)
     go_simp
     refine (flag_is _ _ _).mono ?_
     rintro e w2 ⟨rfl,hw2⟩
     obtain rfl := hw2.symm
     clear hw2
     refine hK.out _ _ (by simp) (fun hHeld => ?_)
     clear hK K
     refine rtk 4 (h := ?_)
     refine rtk 8 (h := ?_)
     refine rtk 9 (h := ?_)
     refine rcl 10 (h := fun K hK => ?_)
     go_simp
     refine hK.out _ _ (by simp) (fun hHeld => ?_)
     clear hK K
     refine wpAnyH_done (by kernel_rfl) ?_ _
     refine NoPanic.normal ?_
     go_wp2
     go_roundw
     case rel => exact ⟨k + 1,mq u.qos,_,by omega,by go_num,rfl,rfl,hF,by show _ = _; rw [uh HO2]; rfl,uh HB2⟩
     case measure => simp [intOf]; omega
theorem er_of_inn {w : World} {v : Value} {n : Int} (h : Inn w v n) : ∃ d,d <= 2 /\ Er w d v n := by
 rcases h with h | ⟨b,h1,h2⟩
 ·exact ⟨0,by omega,h⟩
 ·exact ⟨1,by omega,b,_,h1,h2,rfl⟩
end Go.Proofs.YtemedclhglkfjaaGreatDoor.K
