/- Proved here: helpers, one text behind the other. -/
import Derived.Test.YtpoeakillimibaaGreatDoorM32
import Derived.Test.YtpoeakillimibaaGreatDoorM36
import Derived.Test.YtpoeakillimibaaGreatDoorZKTk
import Derived.Deep.Cut
set_option maxHeartbeats 20000000
namespace Go.Proofs.YtpoeakillimibaaGreatDoor.K
open Go.RowKit
set_option maxRecDepth 100000
structure B2 (R A : Nat) (w w' : World) : Prop where
 os : w'.os = w.os
 tape : w'.tape = w.tape
 output : w'.output = w.output
 size : w.heap.size <= w'.heap.size
 block : ∀ k,k < w.heap.size -> k ≠ R -> k ≠ A -> w'.heap[k]? = w.heap[k]?
theorem B2.refl (R A : Nat) (w : World) : B2 R A w w := ⟨rfl,rfl,rfl,Nat.le_refl _,fun _ _ _ _ => rfl⟩
theorem B2.trans {R A : Nat} {a b c : World} (h : B2 R A a b) (k : B2 R A b c) : B2 R A a c :=
 ⟨k.os.trans h.os,k.tape.trans h.tape,k.output.trans h.output,Nat.le_trans h.size k.size,fun i hi h1 h2 => (k.block i (Nat.lt_of_lt_of_le hi h.size) h1 h2).trans (h.block i hi h1 h2)⟩
theorem B2.bx {R A : Nat} {may : Nat -> Prop} {a b : World} (h : BX R may a b) : B2 R A a b := ⟨h.os,h.tape,h.output,h.size,fun k hk h1 _ => h.block k hk h1⟩
theorem B2.bel {R A : Nat} {a b : World} (h : Below a.heap.size a b) : B2 R A a b := ⟨h.os,h.tape,h.output,h.size,fun k hk _ _ => h.block k hk⟩
theorem B2.set {R A : Nat} {a b : World} (h : B2 R A a b) (j : Nat) (u : Value) : B2 R A a (b.setCell ⟨A,j,none⟩ u) :=
 h.trans ⟨rfl,rfl,rfl,by simp [World.setCell],fun k _ _ hA => Below.heap_setCell _ _ _ _ hA⟩
theorem B2.setR {R A : Nat} {a b : World} (h : B2 R A a b) (j : Nat) (u : Value) : B2 R A a (b.setCell ⟨R,j,none⟩ u) :=
 h.trans ⟨rfl,rfl,rfl,by simp [World.setCell],fun k _ hR _ => Below.heap_setCell _ _ _ _ hR⟩
theorem B2.setOut {R A : Nat} {a b : World} (h : B2 R A a b) (V j : Nat) (u : Value) (hV : a.heap.size <= V) : B2 R A a (b.setCell ⟨V,j,none⟩ u) :=
 ⟨h.os,h.tape,h.output,by simpa [World.setCell] using h.size,fun k hk h1 h2 => (Below.heap_setCell _ _ _ _ (by show k ≠ V; omega)).trans (h.block k hk h1 h2)⟩
theorem B2.grown {R A : Nat} {a b c : World} {row : Option Nat} (h : B2 R A a b) (hg : b.grownBy c row) (hrow : ∀ g,row = some g -> a.heap.size <= g) : B2 R A a c :=
 ⟨hg.os.trans h.os,hg.tape.trans h.tape,hg.output.trans h.output,Nat.le_trans h.size hg.size,fun k hk h1 h2 => (hg.block k (Nat.lt_of_lt_of_le hk h.size) (fun e => by have := hrow k e.symm; omega)).trans (h.block k hk h1 h2)⟩
theorem B2.keep {R A : Nat} {w0 a b : World} (h : B2 R A a b) (hw : Below w0.heap.size w0 a) (hR : w0.heap.size <= R) (hA : w0.heap.size <= A) : Below w0.heap.size w0 b :=
 ⟨h.os.trans hw.os,h.tape.trans hw.tape,h.output.trans hw.output,Nat.le_trans hw.size h.size,fun k hk => (h.block k (Nat.lt_of_lt_of_le hk hw.size) (by omega) (by omega)).trans (hw.block k hk)⟩
theorem owns_b2 {w w' : World} {R A : Nat} {B : Nat} {e : TypeId} {s : Nat} {v : Value} {n : Nat} {xs : List Value} (h : w.ownsRow B e s v n xs) (hx : B2 R A w w') (hR : R < B) (hA : A < B) : w'.ownsRow B e s v n xs := by
 refine ⟨h.1,?_⟩
 rcases h.2 with h1 | ⟨g,cap,cur,hv,hB,hg,rest⟩
 ·exact .inl h1
 ·exact .inr ⟨g,cap,cur,hv,hB,by rw [hx.block g (Array.getElem?_eq_some_iff.1 hg).1 (by omega) (by omega)]; exact hg,rest⟩
theorem Pk.blk {w w' : World} {A : Nat} {p : Pkv} (h : Pk w A p) (hb : w'.heap[A]? = w.heap[A]?) : Pk w' A p := fun j hj =>
 ⟨(World.cell?_of_block (a := ⟨A,j,none⟩) hb).trans (h j hj).1,(World.frozen?_of_block (a := ⟨A,j,none⟩) hb).trans (h j hj).2⟩
theorem Pk.oth {w w' : World} {R A : Nat} {may : Nat -> Prop} {p : Pkv} (h : Pk w A p) (hx : BX R may w w') (hA : A ≠ R) : Pk w' A p := h.blk (hx.block A h.lt hA)
theorem RP.far {w0 : GW} {w w' : World} {R : Nat} {st : Option (List Int)} (h : RP w0 w R st) (hb : w'.heap[R]? = w.heap[R]?) (hw' : Below w0.heap.size w0 w') : RP w0 w' R st := by
 obtain ⟨ao,n,cap,k,bad,L,hc,hy,hk,hn,hw,hR,hst⟩ := h
 exact ⟨ao,n,cap,k,bad,L,hc.far hb,hy,hk,hn,hw',hR,hst⟩
theorem RP.keep {w0 : GW} {w : World} {R : Nat} {st : Option (List Int)} (h : RP w0 w R st) : Below w0.heap.size w0 w := by
 obtain ⟨_,_,_,_,_,_,_,_,_,_,h,_⟩ := h
 exact h
theorem RP.low {w0 : GW} {w : World} {R : Nat} {st : Option (List Int)} (h : RP w0 w R st) : w0.heap.size <= R := by
 obtain ⟨_,_,_,_,_,_,_,_,_,_,_,h,_⟩ := h
 exact h
theorem RP.set {w0 : GW} {w : World} {R : Nat} {st : Option (List Int)} (h : RP w0 w R st) (A j : Nat) (u : Value) (hA : A ≠ R) (h0 : w0.heap.size <= A) : RP w0 (w.setCell ⟨A,j,none⟩ u) R st :=
 h.far (Below.heap_setCell _ _ _ _ (fun e => hA e.symm)) ⟨h.keep.os,h.keep.tape,h.keep.output,by simpa [World.setCell] using h.keep.size,fun k hk => (Below.heap_setCell _ _ _ _ (by show k ≠ A; omega)).trans (h.keep.block k hk)⟩
theorem RP.grown {w0 : GW} {w w' : World} {R : Nat} {st : Option (List Int)} {row : Option Nat} (h : RP w0 w R st) (hg : w.grownBy w' row) (hR : row ≠ some R) (h0 : ∀ g,row = some g -> w0.heap.size <= g) : RP w0 w' R st :=
 h.far (hg.block R h.lt (fun e => hR e.symm)) ⟨hg.os.trans h.keep.os,hg.tape.trans h.keep.tape,hg.output.trans h.keep.output,Nat.le_trans h.keep.size hg.size,fun k hk => (hg.block k (Nat.lt_of_lt_of_le hk h.keep.size) (fun e => by have := h0 k e.symm; omega)).trans (h.keep.block k hk)⟩
theorem RP.bad {w0 : GW} {w : World} {R : Nat} {st : Option (List Int)} (h : RP w0 w R st) : RP w0 (w.setCell ⟨R,2,none⟩ (.bool true)) R none := by
 obtain ⟨ao,n,cap,k,bad,L,hc,hy,hk,hn,hw,hR,hst⟩ := h
 exact ⟨ao,n,cap,k,true,L,hc.setBad true,hy,hk,hn,((BX.refl R isAny w).set 2 _ trivial).keep hw hR,hR,rfl⟩
theorem RP.c2 {w0 : GW} {w : World} {R : Nat} {st : Option (List Int)} (h : RP w0 w R st) : ∃ b,w.cell? ⟨R,2,none⟩ = some (.bool b) /\ w.frozen? ⟨R,2,none⟩ = false /\ b = st.isNone := by
 obtain ⟨ao,n,cap,k,bad,L,hc,hy,hk,hn,hw,hR,hst⟩ := h
 refine ⟨bad,hc.2.2.1,hc.2.2.2,?_⟩
 subst hst
 cases bad <;> rfl
def PgP (w0 : GW) (R : Nat) (place : Int) (st : Option (List Int)) (w : World) (e : Ending) (w' : World) : Prop :=
 ∃ (t : Sl) (x : List Pr) (st' : Option (List Int)),e = .returned t.val /\ Hid (w'.ownsRow w.heap.size 120 4 t.val x.length (pcs x)) /\ Stp (props? place) st x st' /\ RP w0 w' R st' /\ BX R isAny w w'
theorem props_pg (R : Nat) (place : Int) (st : Option (List Int)) (w0 : GW) (w : World) (h : RP w0 w R st) : Calls Tryz.prog 128 #[.pointer (some ⟨R,0,none⟩),.int .i64 place] w (PgP w0 R place st w) := by
 have hlt := h.lt
 have hw0 := h.keep
 have HS := zh h
 have HW0 := zh hw0
 clear h hw0
 go_enter Tryz.func128,Tryz.ntmps128
 go_wp2_with fail
 refine (left_pg R st w0 w (uh HS)).mono ?_
 rintro e w1 ⟨v,l,rfl,hv,he1,he2,hb1⟩
 have HW1 : Hid (Below w0.heap.size w0 w1) := (uh HW0).trans (hb1.mono (uh HW0).size)
 obtain ⟨n,hN,hn⟩ := psz_len place l
 have HG := zh (rGet_own v l place w1 ((uh hv).below (uh HW1)))
 unfold RGetPost2 at HG
 rw [hN] at HG
 have HS1 := zh ((uh HS).below hb1)
 have HB1 := zh hb1
 have HE1 := zh he1
 have HQ : Hid (props? place l = if pgt place l = 0 then some (plist place l,l.drop n) else none) := by
  show props? place l = _
  unfold props?
  rw [hN,Int.toNat_natCast]
 clear hb1 he1 he2 hN
 generalize plist place l = x at HG HQ
 generalize pgt place l = m at HG HQ
 go_wp2_with fail
 refine (uh HG).mono ?_
 rintro e w2 ⟨u,rfl,hO,hb2⟩
 obtain ⟨t,ht,_⟩ := owns_sl (uh hO)
 subst ht
 have HS2 := zh ((uh HS1).below hb2)
 have HB2 : Hid (Below w.heap.size w w2) := (uh HB1).trans (hb2.mono (uh HB1).size)
 have hs1 : w.heap.size <= w1.heap.size := (uh HB1).size
 clear hb2
 go_wp2_with fail
 refine (took_pg R st n m w0 w2 (uh HS2) (fun l' e => by rw [(uh HE1) l' e]; exact hn)).mono ?_
 rintro e w3 ⟨rfl,h3,hx3⟩
 have HS3 := zh h3
 have HX3 := zh hx3
 clear h3 hx3
 go_wp2
 go_ret
 refine ⟨t,x,_,rfl,owns_mono (owns_bx (uh hO) (uh HX3) (Nat.lt_of_lt_of_le hlt hs1)) hs1,?_,uh HS3,(BX.of_below (uh HB2) hlt).trans (uh HX3)⟩
 cases st with
 | none =>
  show (if m = 0 then _ else _) = none
  split <;> rfl
 | some l' =>
  have e := (uh HE1) l' rfl
  subst e
  exact stp_get (props? place) (some l') l' x n m (.inl rfl) (uh HQ)
def moreB : Option (List Int) -> Bool
 | none => false
 | some l => !l.isEmpty
theorem more_pg (R : Nat) (st : Option (List Int)) (w0 : GW) (w : World) (h : RP w0 w R st) : Calls Tryz.prog 173 #[.pointer (some ⟨R,0,none⟩)] w fun e w' => e = .returned (.bool (moreB st)) /\ Below w.heap.size w w' := by
 obtain ⟨ao,n,cap,k,bad,L,hc,hy,hk,hn,hw,hR,hst⟩ := h
 obtain ⟨hl,hc1,hc2⟩ := byt_len hy
 unfold maxLen at hc2
 have HD := zh (bel_drew w)
 obtain ⟨h0,⟨h1,f1⟩,h2,f2⟩ := hc
 cases bad
 ·have HM : Hid (moreB st = decide (k < n)) := by
   show _ = _
   rw [hst]
   show (!(L.drop k).isEmpty) = _
   rcases Nat.lt_or_ge k n with a | a
   ·rw [decide_eq_true (by omega)]
    cases hd : L.drop k with
    | nil => have := congrArg List.length hd; rw [List.length_drop,hl] at this; simp at this; omega
    | cons x t => rfl
   ·rw [decide_eq_false (by omega),List.drop_of_length_le (by omega)]
    rfl
  clear hst hy hw hl
  go_enter Tryz.func173,Tryz.ntmps173
  go_wp2_with fail
  refine wp_region_noPanic ?_
  refine wp_region_held_drew (S := (fun w' => w'.cell? ⟨R,0,none⟩ = some (.slice ao n cap) /\ w'.cell? ⟨R,1,none⟩ = some (.int .i64 (k : Nat)) /\ w'.cell? ⟨R,2,none⟩ = some (.bool false))) (by kernel_rfl) ⟨by simpa using h0,by simpa using h1,by simpa using h2⟩ (fun hHeld => ?_)
  refine rtk 0 (h := ?_)
  refine rtk 1 (h := ?_)
  refine rtk 2 (h := ?_)
  refine rtk 3 (h := ?_)
  refine rtk 4 (h := ?_)
  refine rtk 5 (h := ?_)
  refine rtk 6 (h := ?_)
  refine rtk 7 (h := ?_)
  refine rtk 8 (h := ?_)
  refine rtk 9 (h := ?_)
  refine rtk 10 (h := ?_)
  refine rtk 11 (h := ?_)
  refine rtk 12 (h := ?_)
  refine rtk 13 (h := ?_)
  refine rtk 14 (h := ?_)
  refine rtk 15 (h := ?_)
  refine rtk 16 (h := ?_)
  refine rcl 17 (h := fun K hK => ?_)
  go_simp
  refine hK.out _ _ ⟨by simpa using h0,by simpa using h1,by simpa using h2⟩ (fun hHeld => ?_)
  clear hK K
  refine wpAnyH_done (by kernel_rfl) ?_ _
  refine NoPanic.normal ?_
  go_wp2
  go_ret
  exact ⟨by rw [uh HM]; rfl,uh HD⟩
 ·obtain rfl : st = none := hst
  clear hy hw hl
  go_enter Tryz.func173,Tryz.ntmps173
  go_wp2_with fail
  refine wp_region_noPanic ?_
  refine wp_region_held_drew (S := (fun w' => w'.cell? ⟨R,0,none⟩ = some (.slice ao n cap) /\ w'.cell? ⟨R,1,none⟩ = some (.int .i64 (k : Nat)) /\ w'.cell? ⟨R,2,none⟩ = some (.bool true))) (by kernel_rfl) ⟨by simpa using h0,by simpa using h1,by simpa using h2⟩ (fun hHeld => ?_)
  refine rtk 0 (h := ?_)
  refine rtk 1 (h := ?_)
  refine rtk 2 (h := ?_)
  refine rtk 3 (h := ?_)
  refine rtk 4 (h := ?_)
  refine rtk 5 (h := ?_)
  refine rsk 6 (h := ?_)
  refine rsk 7 (h := ?_)
  refine rsk 8 (h := ?_)
  refine rsk 9 (h := ?_)
  refine rsk 10 (h := ?_)
  refine rsk 11 (h := ?_)
  refine rsk 12 (h := ?_)
  refine rsk 13 (h := ?_)
  refine rsk 14 (h := ?_)
  refine rsk 15 (h := ?_)
  refine rtk 16 (h := ?_)
  refine rcl 17 (h := fun K hK => ?_)
  go_simp
  refine hK.out _ _ ⟨by simpa using h0,by simpa using h1,by simpa using h2⟩ (fun hHeld => ?_)
  clear hK K
  refine wpAnyH_done (by kernel_rfl) ?_ _
  refine NoPanic.normal ?_
  go_wp2
  go_ret
  exact ⟨rfl,uh HD⟩
theorem moreB_no {st : Option (List Int)} (h : moreB st = false) : st = none \/ st = some [] := by
 cases st with
 | none => exact .inl rfl
 | some l => cases l with
  | nil => exact .inr rfl
  | cons a t => cases h
theorem moreB_yes {st : Option (List Int)} (h : moreB st = true) : ∃ l,st = some l /\ l ≠ [] := by
 cases st with
 | none => cases h
 | some l => cases l with
  | nil => cases h
  | cons a t => exact ⟨_,rfl,by simp⟩
def TailPg (w0 : GW) (R A : Nat) (p : Pkv) (st : Option (List Int)) (w : World) (e : Ending) (w' : World) : Prop :=
 e = .returned (.tuple #[]) /\ ∃ (c : Int) (t : Sl) (x : List Pr) (st' : Option (List Int)),Pk w' A { p with code := c,props := t } /\ Hid (w'.ownsRow w.heap.size 120 4 t.val x.length (pcs x)) /\ Stp (reason? p.kind) st (c,x) st' /\ RP w0 w' R st' /\ B2 R A w w'
theorem tail_pg (R A : Nat) (p : Pkv) (st : Option (List Int)) (w0 : GW) (w : World) (h : RP w0 w R st) (hp : Pk w A p) (hA : A ≠ R) (hA0 : w0.heap.size <= A) (hc : p.code = 0) (hpr : p.props = ⟨none,0,0⟩) : Calls Tryz.prog 132 #[.pointer (some ⟨R,0,none⟩),.pointer (some ⟨A,0,none⟩)] w (TailPg w0 R A p st w) := by
 have hlt := h.lt
 have hla := hp.lt
 have HP := zh hp
 have HS := zh h
 have HC := zh hc
 have HPR := zh hpr
 clear hp h hc hpr
 cases hm : moreB st
 ·go_enter Tryz.func132,Tryz.ntmps132
  go_wp2_with fail
  refine (more_pg R st w0 w (uh HS)).mono ?_
  rintro e w1 ⟨rfl,hb1⟩
  rw [hm]
  have HS1 := zh ((uh HS).below hb1)
  have HB1 := zh hb1
  clear hb1
  go_wp2_with fail
  refine (more_pg R st w0 w1 (uh HS1)).mono ?_
  rintro e w2 ⟨rfl,hb2⟩
  rw [hm]
  have HB2 : Hid (Below w.heap.size w w2) := (uh HB1).trans (hb2.mono (uh HB1).size)
  clear hb2
  go_wp2
  go_end0
  refine ⟨rfl,0,⟨none,0,0⟩,[],st,?_,owns_nil _ _ _ _,?_,(uh HS).below (uh HB2),B2.bel (uh HB2)⟩
  ·have e : { p with code := 0,props := ⟨none,0,0⟩ } = p := by rw [<- uh HC,<- uh HPR]
   rw [e]
   exact (uh HP).below (uh HB2)
  ·rcases moreB_no hm with rfl | rfl
   ·exact rfl
   ·exact ⟨rfl,rfl⟩
 ·obtain ⟨l,rfl,hl⟩ := moreB_yes hm
  obtain ⟨y,t,rfl⟩ : ∃ y t,l = y :: t := by cases l with | nil => exact absurd rfl hl | cons y t => exact ⟨y,t,rfl⟩
  clear hl
  go_enter Tryz.func132,Tryz.ntmps132
  go_wp2_with fail
  refine (more_pg R _ w0 w (uh HS)).mono ?_
  rintro e w1 ⟨rfl,hb1⟩
  rw [hm]
  have HS1 := zh ((uh HS).below hb1)
  have HP1 := zh ((uh HP).below hb1)
  have HB1 : Hid (B2 R A w w1) := B2.bel hb1
  clear hb1 hm
  go_wp2_with fail
  refine (byte_pg R _ w0 w1 (uh HS1)).mono ?_
  rintro e w2 ⟨c,st2,rfl,hcr,hs2,h2,hx2⟩
  obtain ⟨rfl,rfl⟩ := hs2
  have hp2 := (uh HP1).oth hx2 hA
  have c14 := hp2.code
  have f14 := hp2.code_f
  have c0 := hp2.kind
  have HP2 := zh (hp2.set_code c)
  have HS2 := zh (h2.set A 14 (.int .i64 c) hA hA0)
  have HB2 : Hid (B2 R A w (w2.setCell ⟨A,14,none⟩ (.int .i64 c))) := ((uh HB1).trans (B2.bx hx2)).set 14 _
  clear hp2 h2 hx2
  cases ht : t with
  | nil =>
   subst ht
   go_wp2_with fail
   refine (more_pg R _ w0 _ (uh HS2)).mono ?_
   rintro e w3 ⟨rfl,hb3⟩
   rw [show moreB (some []) = false from rfl]
   have HB3 : Hid (B2 R A w w3) := (uh HB2).trans (B2.bel hb3)
   have HP3 := zh ((uh HP2).below hb3)
   have HS3 := zh ((uh HS2).below hb3)
   clear hb3
   go_wp2
   go_end0
   refine ⟨rfl,c,⟨none,0,0⟩,[],_,?_,owns_nil _ _ _ _,?_,uh HS3,uh HB3⟩
   ·have e : { p with code := c,props := ⟨none,0,0⟩ } = { p with code := c } := by rw [<- uh HPR]
    rw [e]
    exact uh HP3
   ·exact ⟨rfl,rfl⟩
  | cons y' t' =>
   subst ht
   go_wp2_with fail
   refine (more_pg R _ w0 _ (uh HS2)).mono ?_
   rintro e w3 ⟨rfl,hb3⟩
   rw [show moreB (some (y' :: t')) = true from rfl]
   have HB3 : Hid (B2 R A w w3) := (uh HB2).trans (B2.bel hb3)
   have hp3 := (uh HP2).below hb3
   have d0 := hp3.kind
   have HP3 := zh hp3
   have HS3 := zh ((uh HS2).below hb3)
   clear hb3 hp3 c14 f14 c0
   go_wp2_with fail
   refine (props_pg R _ _ w0 _ (uh HS3)).mono ?_
   rintro e w4 ⟨s,x,st4,rfl,hO,hs4,h4,hx4⟩
   have hp4 := (uh HP3).oth hx4 hA
   have d7 := hp4.props
   have e7 := hp4.props_f
   have HP4 := zh (hp4.set_props s)
   have HS4 := zh (h4.set A 7 s.val hA hA0)
   have HB4 : Hid (B2 R A w (w4.setCell ⟨A,7,none⟩ s.val)) := ((uh HB3).trans (B2.bx hx4)).set 7 _
   have HST4 := zh hs4
   have hB : w.heap.size <= w3.heap.size := (uh HB3).size
   clear hp4 h4 hx4 hs4 d0
   go_wp2
   go_end0
   refine ⟨rfl,c,s,x,st4,uh HP4,?_,?_,uh HS4,uh HB4⟩
   ·exact owns_mono (owns_b2 (uh hO) ((B2.refl R A w4).set 7 _) (Nat.lt_of_lt_of_le hlt hB) (Nat.lt_of_lt_of_le hla hB)) hB
   ·have k3 := uh HST4
    simp only [Stp,reason?] at k3 |-
    cases hq : props? p.kind (y' :: t') with
    | none => rw [show ({ p with code := c } : Pkv).kind = p.kind from rfl,hq] at k3; simpa using k3
    | some r =>
     obtain ⟨r1,r2⟩ := r
     rw [show ({ p with code := c } : Pkv).kind = p.kind from rfl,hq] at k3
     obtain ⟨rfl,rfl⟩ := k3
     simp
theorem gflag_is (b : Bool) (n : Int) (w : World) : Calls Tryz.prog 109 #[.bool b,.int .i64 n] w fun e w' => e = .returned (.int .i64 (fv b n)) /\ w' = w := by
 cases b
 ·go_enter Tryz.func109,Tryz.ntmps109
  go_wp2
  go_ret
  exact ⟨rfl,rfl⟩
 ·go_enter Tryz.func109,Tryz.ntmps109
  go_wp2
  go_ret
  exact ⟨rfl,rfl⟩
theorem gflags_fixed (p : Pkv) (w : World) (h : p.kind = 6 \/ p.kind = 8 \/ p.kind = 10) : Calls Tryz.prog 61 #[p.val] w fun e w' => e = .returned (.int .i64 2) /\ Below w.heap.size w w' := by
 obtain ⟨kind,dup,qos,retain,topic,id,payload,⟨a1,n1,c1⟩,client,clean,keep,⟨a2,n2,c2⟩,⟨a3,n3,c3⟩,⟨a4,n4,c4⟩,code,session,⟨a5,n5,c5⟩,⟨a6,n6,c6⟩,⟨a7,n7,c7⟩⟩ := p
 simp only at h
 rcases h with rfl | rfl | rfl
 ·go_enter Tryz.func61,Tryz.ntmps61
  go_wp2
  go_ret
  exact ⟨rfl,by go_grown⟩
 ·go_enter Tryz.func61,Tryz.ntmps61
  go_wp2
  go_ret
  exact ⟨rfl,by go_grown⟩
 ·go_enter Tryz.func61,Tryz.ntmps61
  go_wp2
  go_ret
  exact ⟨rfl,by go_grown⟩
theorem gflags_other (p : Pkv) (w : World) (h3 : p.kind ≠ 3) (h6 : p.kind ≠ 6) (h8 : p.kind ≠ 8) (h10 : p.kind ≠ 10) : Calls Tryz.prog 61 #[p.val] w fun e w' => e = .returned (.int .i64 0) /\ Below w.heap.size w w' := by
 obtain ⟨kind,dup,qos,retain,topic,id,payload,⟨a1,n1,c1⟩,client,clean,keep,⟨a2,n2,c2⟩,⟨a3,n3,c3⟩,⟨a4,n4,c4⟩,code,session,⟨a5,n5,c5⟩,⟨a6,n6,c6⟩,⟨a7,n7,c7⟩⟩ := p
 simp only at h3 h6 h8 h10
 go_enter Tryz.func61,Tryz.ntmps61
 go_wp2
 go_ret
 exact ⟨rfl,by go_grown⟩
def pgf (dup : Bool) (qos : Int) (retain : Bool) : Int := fv dup 8 + 2 * qos + fv retain 1
theorem gflags_pub (p : Pkv) (w : World) (h3 : p.kind = 3) (hq : 0 <= p.qos /\ p.qos <= 3) : Calls Tryz.prog 61 #[p.val] w fun e w' => e = .returned (.int .i64 (pgf p.dup p.qos p.retain)) /\ Below w.heap.size w w' := by
 obtain ⟨kind,dup,qos,retain,topic,id,payload,⟨a1,n1,c1⟩,client,clean,keep,⟨a2,n2,c2⟩,⟨a3,n3,c3⟩,⟨a4,n4,c4⟩,code,session,⟨a5,n5,c5⟩,⟨a6,n6,c6⟩,⟨a7,n7,c7⟩⟩ := p
 simp only at h3 hq
 subst h3
 unfold pgf
 have hf8 : 0 <= fv dup 8 /\ fv dup 8 <= 8 := by unfold fv; cases dup <;> simp
 have hf1 : 0 <= fv retain 1 /\ fv retain 1 <= 1 := by unfold fv; cases retain <;> simp
 go_enter Tryz.func61,Tryz.ntmps61
 go_wp2_with fail
 refine wp_region_noPanic ?_
 refine wp_region_held_drew (S := (fun w' => w'.cell? ⟨w.heap.size,1,none⟩ = some (.bool dup) /\ w'.cell? ⟨w.heap.size,2,none⟩ = some (.int .i64 qos) /\ w'.cell? ⟨w.heap.size,3,none⟩ = some (.bool retain))) (by kernel_rfl) (by simp) (fun hHeld => ?_)
 refine rtk 0 (h := ?_)
 refine rtk 1 (h := ?_)
 refine rtk 3 (h := ?_)
 refine rtk 4 (h := ?_)
 refine rtk 5 (h := ?_)
 refine rtk 7 (h := ?_)
 refine rtk 8 (h := ?_)
 refine rcl 2 (h := fun K hK => ?_)
 go_simp
 refine (gflag_is _ _ _).mono ?_
 rintro e w2 ⟨rfl,hw2⟩
 obtain rfl := hw2.symm
 clear hw2
 refine hK.out _ _ (by simp) (fun hHeld => ?_)
 clear hK K
 refine rtk 6 (h := ?_)
 refine rcl 9 (h := fun K hK => ?_)
 go_simp
 refine (gflag_is _ _ _).mono ?_
 rintro e w2 ⟨rfl,hw2⟩
 obtain rfl := hw2.symm
 clear hw2
 refine hK.out _ _ (by simp) (fun hHeld => ?_)
 clear hK K
 refine rtk 10 (h := ?_)
 refine rcl 11 (h := fun K hK => ?_)
 go_simp
 refine hK.out _ _ (by simp) (fun hHeld => ?_)
 clear hK K
 refine wpAnyH_done (by kernel_rfl) ?_ _
 refine NoPanic.normal ?_
 go_wp2
 go_ret
 refine ⟨congrArg (fun z => Ending.returned (Value.int .i64 z)) (?_ : IntKind.i64.wrap (IntKind.i64.wrap (fv dup 8 + IntKind.i64.wrap (2 * qos)) + fv retain 1) = fv dup 8 + 2 * qos + fv retain 1),by go_grown⟩
 simp only [IntKind.wrap_i64]
 omega
def gfl (b : Int) : Int := if b / 16 = 3 then pgf (btest b 8) (b / 2 % 4) (btest b 1) else if b / 16 = 6 \/ b / 16 = 8 \/ b / 16 = 10 then 2 else 0
theorem gflags_b (b : Int) (w : World) : Calls Tryz.prog 61 #[(bpk b).val] w fun e w' => e = .returned (.int .i64 (gfl b)) /\ Below w.heap.size w w' := by
 unfold gfl bpk
 by_cases h3 : b / 16 = 3
 ·simp only [if_pos h3]
  exact gflags_pub _ w rfl (by simp only [pk0]; omega)
 ·simp only [if_neg h3]
  by_cases h6 : b / 16 = 6 \/ b / 16 = 8 \/ b / 16 = 10
  ·simp only [if_pos h6]
   exact gflags_fixed _ w h6
  ·simp only [if_neg h6]
   exact gflags_other _ w h3 (fun e => h6 (.inl e)) (fun e => h6 (.inr (.inl e))) (fun e => h6 (.inr (.inr e)))
def hnum (lim : Int) (l : List Int) : Int := if l = [] then 3 else if bok (l.getD 0 0) = false then 1 else if (V.vget (l.drop 1)).2.2 ≠ 0 then (V.vget (l.drop 1)).2.2 else if lim < ((1 + ghd (l.drop 1) + (gid (l.drop 1)).toNat : Nat) : Int) then 2 else 0
def HeadPost (lim : Int) (l : List Int) (w : World) (e : Ending) (w' : World) : Prop :=
 ∃ (q : Pkv) (a n : Nat),e = .returned (.tuple #[q.val,.int .i64 a,.int .i64 n,.int .i64 (hnum lim l)]) /\ (hnum lim l = 0 -> q = bpk (l.getD 0 0) /\ a = 1 + ghd (l.drop 1) /\ n = (gid (l.drop 1)).toNat) /\ Below w.heap.size w w'
theorem res_pk4 {fn : Func} {a t u v : Tmp} (h : fn.results = #[.cell a 30,.tmp t,.tmp u,.tmp v]) {tmps : Array Value} {w : World} {B : Nat} {q : Pkv} (ha : tmps[a]?.getD undef = .pointer (some ⟨B,0,none⟩)) (hq : Pk w B q) : (results fn tmps).run Tryz.prog w = .ok (.tuple #[q.val,tmps[t]?.getD undef,tmps[u]?.getD undef,tmps[v]?.getD undef]) w := by
 have k := run_loadVar_mid (P := Tryz.prog) w B 0 30 q.cells _ hq.range Tryz.underlying30 rfl packet_size
 simp [results,h,ha,asAddr,k]
 rfl
theorem packet_build1 (a : Act) (dst : Option Tmp) (x : Operand) (ty : TypeId) (pos : String) (after : Array Edge) (k : Int) (hx : a.eval x = .int .i64 k) (w : World) :
  (execOp a.eval ⟨dst,.build 30 #[(0,x)],ty,pos,after,none⟩).run Tryz.prog w = .ok (.value (pk0 k false 0 false).val) w := by
 unfold execOp
 simp only [List.map_toArray,List.map_cons,List.map_nil,hx]
 kernel_rfl
theorem packet_alloc (ρ : Operand -> Value) (dst : Option Tmp) (ty : TypeId) (pos : String) (after : Array Edge) (w : World) :
  (execOp ρ ⟨dst,.alloc 30,ty,pos,after,none⟩).run Tryz.prog w = .ok (.value (.pointer (some ⟨w.heap.size,0,none⟩))) (w.alloc (.cells pkz.cells.toArray 30)) := by
 kernel_rfl
theorem packet_store (a : Act) (dst : Option Tmp) (x y : Operand) (ty : TypeId) (pos : String) (after : Array Edge) (q : Pkv) (w : World) (hx : a.eval x = .pointer (some ⟨w.heap.size,0,none⟩)) (hy : a.eval y = q.val) :
  (execOp a.eval ⟨dst,.store 30 x y,ty,pos,after,none⟩).run Tryz.prog (w.alloc (.cells pkz.cells.toArray 30)) = .ok .skip (w.alloc (.cells q.cells.toArray 30)) := by
 show Sem.run Tryz.prog (do Instr.storeAt 30 (a.eval x) (a.eval y); pure Next.skip) _ = _
 rw [hx,hy,show q.val = .agg q.cells.toArray from rfl]
 simp only [Sem.run_bind]
 rw [run_storeAt_new w 30 pkz.cells.toArray q.cells.toArray (by rw [packet_size]; rfl) rfl (Pkv.ones' q)]
 rfl
theorem head_nil (ao : Option Addr) (cap : Nat) (lim : Int) (w : World) : Calls Tryz.prog 72 #[.slice ao 0 cap,.int .i64 lim] w (HeadPost lim [] w) := by
 have HPN := zh (pk_new w pkz)
 have HBN : Hid (Below w.heap.size w (w.alloc (.cells pkz.cells.toArray 30))) := bal _ _
 have hdn : hnum lim [] = 3 := by unfold hnum; rw [if_pos rfl]
 obtain ⟨l,hl⟩ : ∃ l : List Int,l = [] := ⟨_,rfl⟩
 rw [<- hl] at hdn |-
 have HDN := zh hdn
 clear hdn hl
 go_enter Tryz.func72,Tryz.ntmps72
 go_upto_region 2 with fail
 change Code.wp _ _ _ _ (w.alloc (.cells pkz.cells.toArray 30))
 generalize w.alloc (.cells pkz.cells.toArray 30) = w1 at HPN HBN |-
 iterate 4 go_step
 refine wpList_store_mid rfl 30 _ _ rfl w.heap.size 0 pkz.cells.toArray rfl rfl ((uh HPN).there _) packet_size (Pkv.ones' _) ?_
 simp only [Act.put]
 have HPS := zh ((uh HPN).stored pkz)
 have HBS : Hid (Below w.heap.size w (w1.setCells w.heap.size 0 pkz.cells)) := setCells_below (uh HBN) (Nat.le_refl _)
 generalize w1.setCells w.heap.size 0 pkz.cells = w2 at HPS HBS |-
 go_wp2
 refine bodyPost_ret (res_pk4 (B := w.heap.size) (q := pkz) rfl rfl (uh HPS)) rfl ?_
 exact ⟨pkz,0,0,by rw [uh HDN]; rfl,fun h => absurd ((uh HDN).symm.trans h) (by decide),uh HBS⟩
theorem wpList_wanted {P : Program} {ops : Array Oper} {Q : Exit -> Act -> World -> Prop} {a : Act} {w : World} {rest : List Oper} {o : Oper} (hw : Region.wanted o (yielded ops a.tmps) = true) (h : ∀ K : Act -> World -> Prop,(∀ a w,wpList P ops Q rest a w -> K a w) -> o.wp P a w K Q) : wpList P ops Q (o :: rest) a w :=
 wpList_step fun K hK => by rw [if_pos hw]; exact h K hK
def HeadR (l : List Int) (s10 s11 s12 : Value) : Prop :=
 (∃ a b m : Int,m ≠ 0 /\ (V.vget l).2.2 = m /\ s10 = .int .i64 a /\ s11 = .int .i64 b /\ s12 = .int .i64 m) \/ (∃ N K : Nat,gid l = N /\ ghd l = K /\ K <= 4 /\ N <= 268435455 /\ (V.vget l).2.2 = 0 /\ s10 = .int .i64 N /\ s11 = .int .i64 K /\ s12 = .int .i64 0)
theorem headR_any (v : Value) (l : List Int) (w : World) (h : Byt w v l) : Calls Tryz.prog 125 #[v] w fun e w' => ∃ a b m : Int,e = .returned (.tuple #[.int .i64 a,.int .i64 b,.int .i64 m]) /\ Hid (HeadR l (.int .i64 a) (.int .i64 b) (.int .i64 m)) /\ Below w.heap.size w w' := by
 by_cases hv : (V.vget l).2.2 = 0
 ·obtain ⟨hv',h1,h2,h3,h4,h5⟩ := vget_is l h.range hv
  have hQ4 := ghd_le l h2 h5
  obtain ⟨N,hN⟩ : ∃ N : Nat,gid l = N := ⟨(gid l).toNat,by omega⟩
  refine (rvget_good v l w h N (ghd l) (by rw [hv',hN])).mono ?_
  rintro e w' ⟨rfl,hb⟩
  exact ⟨N,ghd l,0,rfl,.inr ⟨N,ghd l,hN,rfl,hQ4,by omega,hv,rfl,rfl,rfl⟩,hb⟩
 ·refine (rvget_fail v l w h _ rfl).mono ?_
  rintro e w' ⟨a,b,rfl,hb⟩
  exact ⟨a,b,_,rfl,.inl ⟨a,b,_,hv,rfl,rfl,rfl,rfl⟩,hb⟩
theorem bok_is (b : Int) (h0 : 0 <= b) (h1 : b <= 255) : bok b = !((b / 16 == 0) || (b % 16 != gfl b) || ((bpk b).qos == 3) || ((bpk b).dup && ((bpk b).qos == 0))) := byte_cases (P := fun b => bok b = !((b / 16 == 0) || (b % 16 != gfl b) || ((bpk b).qos == 3) || ((bpk b).dup && ((bpk b).qos == 0)))) (by decide +kernel) b h0 h1
theorem head_some (bl off cap : Nat) (l : List Int) (lim : Int) (w : World) (h : Byt w (.slice (some ⟨bl,off,none⟩) l.length cap) l) (hl : l ≠ []) : Calls Tryz.prog 72 #[.slice (some ⟨bl,off,none⟩) l.length cap,.int .i64 lim] w (HeadPost lim l w) := by
 have HPN := zh (pk_new w pkz)
 have HBN : Hid (Below w.heap.size w (w.alloc (.cells pkz.cells.toArray 30))) := bal _ _
 have hl1 : 1 <= l.length := List.length_pos_iff.2 hl
 obtain ⟨hc1,hc2⟩ : l.length <= cap /\ cap <= maxLen := (byt_len h).2
 unfold maxLen at hc2
 have hr0 := h.range 0
 obtain ⟨b',off',e',hbl⟩ := byt_at h 0 hl1
 simp only [Option.some.injEq,Addr.mk.injEq] at e'
 obtain ⟨rfl,rfl,_⟩ := e'
 rw [Nat.add_zero] at hbl
 have hcl := cell_lt hbl
 have HH := zh h
 have HL := zh hl
 generalize hn : l.length = n at hc1 hl1 HH
 have HN := zh hn
 obtain ⟨b,hb⟩ : ∃ b,l.getD 0 0 = b := ⟨_,rfl⟩
 rw [hb] at hr0 hbl
 have HB0 := zh hb
 clear h hl hn hb
 go_enter Tryz.func72,Tryz.ntmps72
 go_upto_region 3 with fail
 change Code.wp _ _ _ _ (w.alloc (.cells pkz.cells.toArray 30))
 generalize w.alloc (.cells pkz.cells.toArray 30) = w1 at HPN HBN |-
 have hbl1 : w1.cell? ⟨bl,off,none⟩ = some (.int .u8 b) := ((uh HBN).cell (p := ⟨bl,off,none⟩) hcl).trans hbl
 have hlt1 := (uh HPN).lt
 have hcl1 : bl < w.heap.size := hcl
 clear hbl hcl
 iterate 16 go_step
 refine wpList_value rfl (packet_build1 _ _ _ _ _ _ (b / 16) rfl _) ?_
 simp only [Act.put,List.setIfInBounds_toArray,List.set_cons_zero,List.set_cons_succ]
 refine wpList_value rfl (packet_alloc _ _ _ _ _ _) ?_
 simp only [Act.put,List.setIfInBounds_toArray,List.set_cons_zero,List.set_cons_succ]
 refine wpList_skip rfl (packet_store _ _ _ _ _ _ _ (pk0 (b / 16) false 0 false) _ rfl rfl) ?_
 simp only [Act.put]
 have HP8 := zh (pk_new w1 (pk0 (b / 16) false 0 false))
 have HP4 := zh ((uh HPN).below (al (.cells (pk0 (b / 16) false 0 false).cells.toArray 30)))
 have HB3 : Hid (Below w.heap.size w (w1.alloc (.cells (pk0 (b / 16) false 0 false).cells.toArray 30))) := (uh HBN).alloc (Nat.le_of_lt hlt1) _
 have hbl3 : (w1.alloc (.cells (pk0 (b / 16) false 0 false).cells.toArray 30)).cell? ⟨bl,off,none⟩ = some (.int .u8 b) := (World.cell?_alloc_lt _ _ ⟨bl,off,none⟩ (Nat.lt_trans hcl1 hlt1)).trans hbl1
 obtain ⟨B,hB⟩ : ∃ B,B = w1.heap.size := ⟨_,rfl⟩
 rw [<- hB] at HP8 hlt1 |-
 generalize w1.alloc (.cells (pk0 (b / 16) false 0 false).cells.toArray 30) = w3 at HP8 HP4 HB3 hbl3 |-
 clear HPN HBN hbl1 hB
 have k15 : bits .and .u8 b 15 = b % 16 := byte_cases (P := fun x => bits .and .u8 x 15 = x % 16) (by decide +kernel) b hr0.1 hr0.2
 have k8 := and8' b hr0.1 hr0.2
 have k1 := and1' b hr0.1 hr0.2
 have kq := shq' b hr0.1 hr0.2
 have c0 := (uh HP8).kind
 have c1 := (uh HP8).dup
 have c2 := (uh HP8).qos
 have c3 := (uh HP8).retain
 have f1 := (uh HP8).dup_f
 have f2 := (uh HP8).qos_f
 have f3 := (uh HP8).retain_f
 simp only [pk0] at c0 c1 c2 c3
 go_upto_if 30 with fail
 go_cut [] from 13 (fun wx => Hid (Pk wx B (bpk b)) /\ Hid (Pk wx w.heap.size pkz) /\ Hid (Below w.heap.size w wx))
 case first =>
  by_cases h3 : b / 16 = 3
  ·go_wp2
   go_meet
   case rel =>
    have e : bpk b = pk0 3 (btest b 8) (b / 2 % 4) (btest b 1) := if_pos h3
    have HP8a := ((((uh HP8).set_dup (btest b 8)).set_qos (b / 2 % 4)).set_retain (btest b 1))
    rw [h3] at HP8a
    rw [e]
    have hne : w.heap.size ≠ B := by omega
    exact ⟨HP8a,(((uh HP4).blk (Below.heap_setCell _ _ _ _ hne)).blk (Below.heap_setCell _ _ _ _ hne)).blk (Below.heap_setCell _ _ _ _ hne),(((uh HB3).setCell (Nat.le_of_lt hlt1) _).setCell (Nat.le_of_lt hlt1) _).setCell (Nat.le_of_lt hlt1) _⟩
  ·go_wp2
   go_meet
   case rel =>
    have e : bpk b = pk0 (b / 16) false 0 false := if_neg h3
    rw [e]
    exact ⟨HP8,HP4,HB3⟩
 case rest =>
 obtain ⟨HP8',HP4',HB3'⟩ := hcut
 obtain ⟨wx,hwx⟩ : ∃ wx,wx = wc := ⟨_,rfl⟩
 subst hwx
 clear HP8 HP4 HB3 c0 c1 c2 c3 f1 f2 f3 k15 k8 k1 kq hbl3
 have HFL : Hid (∀ W : World,Calls Tryz.prog 61 #[.agg (bpk b).cells.toArray] W fun e w' => e = .returned (.int .i64 (gfl b)) /\ Below W.heap.size W w') := gflags_b b
 have HOK := zh (bok_is b hr0.1 hr0.2)
 have hkk : (bpk b).kind = b / 16 := by unfold bpk; split <;> simp_all [pk0]
 generalize hg : gfl b = G at HFL HOK
 clear hg
 go_upto_region 9 with fail
 go_cut [65] from 13 (fun s65 wx => s65 = .bool (!bok b) /\ Hid (Pk wx B (bpk b)) /\ Hid (Pk wx w.heap.size pkz) /\ Hid (Below w.heap.size w wx))
 case first =>
  have d0 := (uh HP8').kind
  rw [hkk] at d0
  by_cases hk0 : b / 16 = 0
  ·have hk1 : (b / 16 == 0) = true := by simpa using hk0
   go_wp2
   go_meet
   case rel => exact ⟨by rw [uh HOK,hk1]; rfl,HP8',HP4',HB3'⟩
  ·have hk1 : (b / 16 == 0) = false := by simpa using hk0
   iterate 15 go_step
   refine wpList_wanted (by rfl) fun K hK => wp_load_mid 30 _ rfl B 0 rfl (bpk b).cells _ (uh HP8').range Tryz.underlying30 rfl packet_size (hK _ _ ?_)
   clear hK K
   simp only [Act.put,List.setIfInBounds_toArray,List.set_cons_zero,List.set_cons_succ]
   go_wp2_with fail
   refine ((uh HFL) _).mono ?_
   rintro e wy ⟨rfl,hby⟩
   have hp8 := (uh HP8').below hby
   have hp4 := (uh HP4').below hby
   have hb3 : Below w.heap.size w wy := (uh HB3').trans (hby.mono (uh HB3').size)
   have d1 := hp8.dup
   have d2 := hp8.qos
   have HP8y := zh hp8
   have HP4y := zh hp4
   have HB3y := zh hb3
   clear hby hp8 hp4 hb3 d0 HP8' HP4' HB3' HFL
   generalize (bpk b).dup = dd at d1 HOK
   generalize (bpk b).qos = qq at d2 HOK
   rw [hk1] at HOK
   cases hf : (b % 16 != G)
   ·rw [hf] at HOK
    cases hq3 : (qq == 3)
    ·rw [hq3] at HOK
     cases dd
     ·go_wp2
      go_meet
      case rel => exact ⟨by rw [uh HOK]; rfl,HP8y,HP4y,HB3y⟩
     ·cases hq0 : (qq == 0)
      ·rw [hq0] at HOK
       go_wp2
       go_meet
       case rel => exact ⟨by rw [uh HOK]; rfl,HP8y,HP4y,HB3y⟩
      ·rw [hq0] at HOK
       go_wp2
       go_meet
       case rel => exact ⟨by rw [uh HOK]; rfl,HP8y,HP4y,HB3y⟩
    ·rw [hq3] at HOK
     go_wp2
     go_meet
     case rel => exact ⟨by rw [uh HOK]; rfl,HP8y,HP4y,HB3y⟩
   ·rw [hf] at HOK
    go_wp2
    go_meet
    case rel => exact ⟨by rw [uh HOK]; rfl,HP8y,HP4y,HB3y⟩
 case rest =>
 obtain ⟨rfl,HP8,HP4,HB3⟩ := hcut
 obtain ⟨wy,hwy⟩ : ∃ wy,wy = wc := ⟨_,rfl⟩
 subst hwy
 clear HP8' HP4' HB3' HFL HOK hkk
 have HN1 : Hid (∀ m,hnum lim l = m -> m ≠ 0 -> ∀ W,Pk W w.heap.size pkz -> Below w.heap.size w W -> HeadPost lim l w (.returned (.tuple #[pkz.val,.int .i64 0,.int .i64 0,.int .i64 m])) W) := fun m hm h0 W _ hb => ⟨pkz,0,0,by rw [hm]; rfl,fun e => absurd (hm.symm.trans e) h0,hb⟩
 have HNU : Hid (hnum lim l = if bok b = false then 1 else if (V.vget (l.drop 1)).2.2 ≠ 0 then (V.vget (l.drop 1)).2.2 else if lim < ((1 + ghd (l.drop 1) + (gid (l.drop 1)).toNat : Nat) : Int) then 2 else 0) := by
  show hnum lim l = _
  unfold hnum
  rw [if_neg (uh HL),uh HB0]
 cases hok : bok b
 ·rw [hok,if_pos rfl] at HNU
  clear hok
  go_upto_region 10 with fail
  iterate 4 go_step
  refine wpList_store_mid rfl 30 _ _ rfl w.heap.size 0 pkz.cells.toArray rfl rfl ((uh HP4).there _) packet_size (Pkv.ones' _) ?_
  simp only [Act.put]
  have HPS := zh ((uh HP4).stored pkz)
  have HBS : Hid (Below w.heap.size w (wy.setCells w.heap.size 0 pkz.cells)) := setCells_below (uh HB3) (Nat.le_refl _)
  generalize wy.setCells w.heap.size 0 pkz.cells = w2 at HPS HBS |-
  go_wp2
  refine bodyPost_ret (res_pk4 (B := w.heap.size) (q := pkz) rfl rfl (uh HPS)) rfl ?_
  exact (uh HN1) 1 (uh HNU) (by decide) _ (uh HPS) (uh HBS)
 rw [hok,if_neg (by decide)] at HNU
 clear hok
 have HBY : Hid (Byt wy (.slice (some ⟨bl,off,none⟩) n cap) l) := (uh HH).below ((uh HB3))
 have HDR := zh ((uh HBY).drop' 1 hl1)
 clear HBY
 go_upto_region 11 with fail
 go_cut [10,11,12] from 13 (fun s10 s11 s12 wx => Hid (HeadR (l.drop 1) s10 s11 s12) /\ Hid (Pk wx B (bpk b)) /\ Hid (Pk wx w.heap.size pkz) /\ Hid (Below w.heap.size w wx))
 case first =>
  by_cases hcap : cap = 1
  ·have HT : Hid (Byt wy (.slice (some ⟨bl,off,none⟩) 0 0) (l.drop 1)) := by
    show Byt _ _ _
    have k := uh HDR
    rw [if_pos hcap,show n - 1 = 0 by omega,show cap - 1 = 0 by omega] at k
    exact k
   clear HDR
   obtain rfl : n = 1 := by omega
   subst hcap
   go_wp2_with fail
   refine (headR_any _ _ _ (uh HT)).mono ?_
   rintro e wz ⟨a1,a2,a3,rfl,hR,hb⟩
   have HPa := zh ((uh HP8).below hb)
   have HPb := zh ((uh HP4).below hb)
   have HBc : Hid (Below w.heap.size w wz) := (uh HB3).trans (hb.mono (uh HB3).size)
   clear hb
   go_wp2
   go_meet
   case rel => exact ⟨hR,HPa,HPb,HBc⟩
  ·have HT : Hid (Byt wy (.slice (some ⟨bl,off + 1,none⟩) (n - 1) (cap - 1)) (l.drop 1)) := by
    show Byt _ _ _
    have k := uh HDR
    rw [if_neg hcap] at k
    exact k
   clear HDR
   go_wp2_with fail
   refine (headR_any _ _ _ (uh HT)).mono ?_
   rintro e wz ⟨a1,a2,a3,rfl,hR,hb⟩
   have HPa := zh ((uh HP8).below hb)
   have HPb := zh ((uh HP4).below hb)
   have HBc : Hid (Below w.heap.size w wz) := (uh HB3).trans (hb.mono (uh HB3).size)
   clear hb
   go_wp2
   go_meet
   case rel => exact ⟨hR,HPa,HPb,HBc⟩
 case rest =>
 obtain ⟨HR,HP8,HP4,HB3⟩ := hcut
 obtain ⟨wz,hwz⟩ : ∃ wz,wz = wc := ⟨_,rfl⟩
 subst hwz
 clear HDR
 rcases uh HR with ⟨a1,a2,a3,h0,hm,rfl,rfl,rfl⟩ | ⟨N,K,hN,hK,hK4,hN2,hm,rfl,rfl,rfl⟩
 ·rw [if_pos (by rw [hm]; exact h0),hm] at HNU
  have h1 : (a3 == 0) = false := by simpa using h0
  have h2 : (a3 != 0) = true := by simpa using h0
  clear hm
  go_upto_region 13 with fail
  iterate 7 go_step
  refine wpList_store_mid rfl 30 _ _ rfl w.heap.size 0 pkz.cells.toArray rfl rfl ((uh HP4).there _) packet_size (Pkv.ones' _) ?_
  simp only [Act.put]
  have HPS := zh ((uh HP4).stored pkz)
  have HBS : Hid (Below w.heap.size w (wz.setCells w.heap.size 0 pkz.cells)) := setCells_below (uh HB3) (Nat.le_refl _)
  generalize wz.setCells w.heap.size 0 pkz.cells = w2 at HPS HBS |-
  go_wp2
  refine bodyPost_ret (res_pk4 (B := w.heap.size) (q := pkz) rfl rfl (uh HPS)) rfl ?_
  exact (uh HN1) a3 (uh HNU) h0 _ (uh HPS) (uh HBS)
 rw [if_neg (by rw [hm]; decide),hN,hK,Int.toNat_natCast] at HNU
 clear hm
 by_cases hlim : lim < ((1 + K + N : Nat) : Int)
 ·rw [if_pos hlim] at HNU
  go_upto_region 15 with fail
  iterate 4 go_step
  refine wpList_store_mid rfl 30 _ _ rfl w.heap.size 0 pkz.cells.toArray rfl rfl ((uh HP4).there _) packet_size (Pkv.ones' _) ?_
  simp only [Act.put]
  have HPS := zh ((uh HP4).stored pkz)
  have HBS : Hid (Below w.heap.size w (wz.setCells w.heap.size 0 pkz.cells)) := setCells_below (uh HB3) (Nat.le_refl _)
  generalize wz.setCells w.heap.size 0 pkz.cells = w2 at HPS HBS |-
  go_wp2
  refine bodyPost_ret (res_pk4 (B := w.heap.size) (q := pkz) rfl rfl (uh HPS)) rfl ?_
  exact (uh HN1) 2 (uh HNU) (by decide) _ (uh HPS) (uh HBS)
 ·rw [if_neg hlim] at HNU
  go_upto_region 16 with fail
  go_step
  refine wpList_load_mid rfl 30 _ rfl B 0 rfl (bpk b).cells _ (uh HP8).range Tryz.underlying30 rfl packet_size ?_
  simp only [Act.put,List.setIfInBounds_toArray,List.set_cons_zero,List.set_cons_succ]
  iterate 9 go_step
  refine wpList_store_mid rfl 30 _ _ rfl w.heap.size 0 (bpk b).cells.toArray rfl rfl ((uh HP4).there _) packet_size (Pkv.ones' _) ?_
  simp only [Act.put]
  have HPS := zh ((uh HP4).stored (bpk b))
  have HBS : Hid (Below w.heap.size w (wz.setCells w.heap.size 0 (bpk b).cells)) := setCells_below (uh HB3) (Nat.le_refl _)
  generalize wz.setCells w.heap.size 0 (bpk b).cells = w2 at HPS HBS |-
  go_wp2
  refine bodyPost_ret (res_pk4 (B := w.heap.size) (q := bpk b) rfl rfl (uh HPS)) rfl ?_
  exact ⟨bpk b,1 + K,N,by rw [uh HNU]; exact (by go_num),fun _ => ⟨by rw [uh HB0],by rw [hK],by rw [hN,Int.toNat_natCast]⟩,uh HBS⟩
theorem head_pg (v : Value) (l : List Int) (lim : Int) (w : World) (h : Byt w v l) : Calls Tryz.prog 72 #[v,.int .i64 lim] w (HeadPost lim l w) := by
 by_cases hl : l = []
 ·subst hl
  obtain ⟨ao,cap,rfl,_⟩ := h.form
  exact head_nil ao cap lim w
 ·obtain ⟨b,off,cap,rfl,_⟩ := h.form1 (List.length_pos_iff.2 hl)
  exact head_some b off cap l lim w h hl
def mlp (R : Nat) (w : World) : Nat := match w.cell? ⟨R,2,none⟩ with
 | some (.bool false) => match w.cell? ⟨R,0,none⟩,w.cell? ⟨R,1,none⟩ with
  | some (.slice _ n _),some (.int _ k) => n - k.toNat + 1
  | _,_ => 0
 | _ => 0
theorem mlp_some {w0 : GW} {w : World} {R : Nat} {l : List Int} (h : RP w0 w R (some l)) : mlp R w = l.length + 1 := by
 obtain ⟨ao,n,cap,k,bad,L,hc,hy,hk,hn,hw,hR,hst⟩ := h
 have hl := (byt_len hy).1
 cases bad
 ·simp only [Bool.false_eq_true,if_false,Option.some.injEq] at hst
  unfold mlp
  rw [hc.2.2.1,hc.1,hc.2.1.1,hst,List.length_drop,hl]
  simp
 ·cases hst
theorem mlp_none {w0 : GW} {w : World} {R : Nat} (h : RP w0 w R none) : mlp R w = 0 := by
 obtain ⟨ao,n,cap,k,bad,L,hc,hy,hk,hn,hw,hR,hst⟩ := h
 cases bad
 ·simp at hst
 ·unfold mlp
  rw [hc.2.2.1]
theorem owns_ne {w : World} {V j : Nat} {u : Value} {B : Nat} {e : TypeId} {s : Nat} {v : Value} {n : Nat} {xs : List Value} (h : w.ownsRow B e s v n xs) (hV : ∀ g,v.ownBlock = some g -> g ≠ V) : (w.setCell ⟨V,j,none⟩ u).ownsRow B e s v n xs := by
 refine ⟨h.1,?_⟩
 rcases h.2 with h1 | ⟨g,cap,cur,hv,hB,hg,rest⟩
 ·exact .inl h1
 ·exact .inr ⟨g,cap,cur,hv,hB,by rw [Below.heap_setCell _ _ _ _ (hV g (by rw [hv]; rfl))]; exact hg,rest⟩
def pglist? {α : Type} (kind : Int) (f : List Int -> Option (α × List Int)) : List Int -> Option ((Int × List Pr × List α) × List Int) :=
 bindR two? fun i => bindR (props? kind) fun x => bindR (manyR f) fun d => bindR (mustR (!(i == 0) && mc d.length)) fun _ => pureR (i,x,d)
def Shw {α : Type} (f : List Int -> Option (α × List Int)) : Prop := ∀ l x l',f l = some (x,l') -> l'.length <= l.length
theorem stp_leq {α : Type} {f : List Int -> Option (α × List Int)} (hf : Shw f) {st st' : Option (List Int)} {x : α} {N : Nat} (h : Stp f st x st') (hl : ∀ l,st = some l -> l.length <= N) : ∀ l,st' = some l -> l.length <= N := by
 intro l' e
 subst e
 cases st with
 | none => cases h
 | some l =>
  unfold Stp at h
  simp only at h
  cases hq : f l with
  | none => rw [hq] at h; cases h
  | some r =>
   obtain ⟨y,l2⟩ := r
   rw [hq] at h
   obtain ⟨_,e⟩ := h
   cases e
   exact Nat.le_trans (hf l y l' hq) (hl l rfl)
theorem two?_shw : Shw two? := by
 intro l x l' h
 match l,h with
 | [],h => cases h
 | [a],h => cases h
 | a :: b :: t,h =>
  simp [two?] at h
  obtain ⟨_,rfl⟩ := h
  simp; omega
theorem props?_shw (k : Int) : Shw (props? k) := by
 intro l x l' h
 unfold props? at h
 split at h
 ·simp only [Option.some.injEq,Prod.mk.injEq] at h
  obtain ⟨_,rfl⟩ := h
  rw [List.length_drop]
  omega
 ·cases h
def okF (x : Int) : Bool := !((bits .and .i64 x 1 != 0) || ((bits .and .i64 x 4 == 0) && (bits .and .i64 x 56 != 0)) || (bits .and .i64 x 24 == 24))
def connectP? : List Int -> Option (Cn × List Int) :=
 bindR text? fun m => bindR (mustR (isMQTT m)) fun _ => bindR one? fun v => bindR (mustR (v == 5)) fun _ => bindR one? fun x => bindR two? fun k => bindR (props? 1) fun pr => bindR text? fun c =>
  bindR (mustR (cfok x)) fun _ => bindR (will? x) fun wl => bindR (user? x) fun us => bindR (pass? x) fun pa => pureR ⟨x,k,pr,c,wl,us,pa⟩
def restC (x k : Int) (pr : List Pr) (c : ByteArray) : List Int -> Option (Cn × List Int) := bindR (mustR (cfok x)) fun _ => bindR (will? x) fun wl => bindR (user? x) fun us => bindR (pass? x) fun pa => pureR ⟨x,k,pr,c,wl,us,pa⟩
def cn0 : Cn := ⟨0,0,[],⟨#[]⟩,none,none,none⟩
def ConnPg (w0 : GW) (R A : Nat) (P : Pa) (st : Option (List Int)) (w : World) (e : Ending) (w' : World) : Prop :=
 e = .returned (.tuple #[]) /\ ∃ (p' : Pkv) (n : Cn) (st' : Option (List Int)),Pk w' A p' /\ Stp connectP? st n st' /\ RP w0 w' R st' /\ B2 R A w w' /\ (st' = none \/ Hid (Mean w' w.heap.size p' (ofCn P n)))
theorem okF_is (x : Int) (h0 : 0 <= x) (h1 : x <= 255) : okF x = cfok x := byte_cases (P := fun x => okF x = cfok x) (by decide +kernel) x h0 h1
theorem bind_none' {α β : Type} (o : Option α) : (o.bind fun _ => (none : Option β)) = none := by cases o <;> rfl
theorem connectP_eq (l : List Int) : connectP? l = connect? l := by
 unfold connectP? connect? flags?
 simp only [bindR,mustR,pureR]
 cases text? l with
 | none => rfl
 | some a =>
  simp only [Option.bind_some]
  cases isMQTT a.1
  ·rfl
  ·simp only [if_true,Option.bind_some]
   cases one? a.2 with
   | none => rfl
   | some b =>
    simp only [Option.bind_some]
    cases (b.1 == 5)
    ·rfl
    ·simp only [if_true,Option.bind_some]
     cases one? b.2 with
     | none => rfl
     | some x =>
      simp only [Option.bind_some]
      cases cfok x.1
      ·simp only [Bool.false_eq_true,if_false,Option.bind_none,bind_none']
      ·simp only [if_true,Option.bind_some]
theorem new_row {w : World} {A j : Nat} {u : Value} {B : Nat} {e : TypeId} {s : Nat} {c : Array Value} {l : List Value} (hA : A < w.heap.size) (hB : B <= w.heap.size) (hc : c.toList = l) (hs : l.length = s) : ((w.alloc (.cells c e)).setCell ⟨A,j,none⟩ u).ownsRow B e s (Sl.val ⟨some ⟨w.heap.size,0,none⟩,1,1⟩) 1 l := by
 subst hc hs
 refine ⟨by simp,.inr ⟨w.heap.size,1,c,rfl,hB,(Below.heap_setCell _ _ _ _ (by show _ ≠ A; omega)).trans Array.getElem?_push_size,Nat.le_refl _,by unfold maxLen; simp,by simp,by simp; exact List.take_of_length_le (by simp)⟩⟩
theorem Stp.not {st : Option (List Int)} {b : Bool} (h : b = false) : Stp (mustR b) st () none := by subst h; cases st <;> rfl
theorem Stp.yes {st : Option (List Int)} {b : Bool} (h : b = true) : Stp (mustR b) st () st := by subst h; exact Stp.must true st
theorem connect_pg (R A : Nat) (d : Bool) (q : Int) (r : Bool) (st : Option (List Int)) (w0 : GW) (w : World) (h : RP w0 w R st) (hp : Pk w A (pk0 1 d q r)) (hA : A ≠ R) (hA0 : w0.heap.size <= A) : Calls Tryz.prog 126 #[.pointer (some ⟨R,0,none⟩),.pointer (some ⟨A,0,none⟩)] w (ConnPg w0 R A (pa0 1 d q r) st w) := by
 have hRw := h.lt
 have hAw := hp.lt
 have hw0 := h.keep.size
 have HP := zh hp
 have HS := zh h
 clear hp h
 go_enter Tryz.func126,Tryz.ntmps126
 go_wp2_with fail
 refine (text_pg R st w0 w (uh HS)).mono ?_
 rintro e w1 ⟨m,st1,rfl,hs1,h1,hx1⟩
 have HP1 := zh ((uh HP).oth hx1 hA)
 have HS1 := zh h1
 have HST1 := zh hs1
 have HB1 : Hid (B2 R A w w1) := B2.bx hx1
 clear h1 hx1 hs1 HP HS
 cases hm : isMQTT m
 ·obtain ⟨bb,c2,f2,_⟩ := (uh HS1).c2
  have HM := zh hm
  have hm2 : (m.toList == [77,81,84,84]) = false := hm
  clear hm
  go_wp2
  go_end0
  exact ⟨rfl,_,cn0,none,(uh HP1).blk (Below.heap_setCell _ _ _ _ hA),(uh HST1).bind ((Stp.not (uh HM)).bind rfl),(uh HS1).bad,(uh HB1).setR 2 _,.inl rfl⟩
 have HM := zh hm
 have hm2 : (m.toList == [77,81,84,84]) = true := hm
 clear hm
 go_wp2_with fail
 refine (byte_pg R st1 w0 w1 (uh HS1)).mono ?_
 rintro e w2 ⟨v,st2,rfl,hv,hs2,h2,hx2⟩
 have HP2 := zh ((uh HP1).oth hx2 hA)
 have HS2 := zh h2
 have HST2 : Hid (∀ n st',Stp (bindR (mustR (v == 5)) fun _ => bindR one? fun x => bindR two? fun k => bindR (props? 1) fun pr => bindR text? fun c => restC x k pr c) st2 n st' -> Stp connectP? st n st') := fun n st' k => (uh HST1).bind ((Stp.yes (uh HM)).bind (hs2.bind k))
 have HB2 : Hid (B2 R A w w2) := (uh HB1).trans (B2.bx hx2)
 clear h2 hx2 hs2 HP1 HS1 HST1 HB1 HM hm2
 cases hv5 : (v == 5)
 ·obtain ⟨bb,c2,f2,_⟩ := (uh HS2).c2
  have HV := zh hv5
  go_wp2
  go_end0
  exact ⟨rfl,_,cn0,none,(uh HP2).blk (Below.heap_setCell _ _ _ _ hA),(uh HST2) _ _ ((Stp.not (uh HV)).bind rfl),(uh HS2).bad,(uh HB2).setR 2 _,.inl rfl⟩
 have HV := zh hv5
 go_wp2_with fail
 refine (byte_pg R st2 w0 w2 (uh HS2)).mono ?_
 rintro e w3 ⟨x,st3,rfl,hx,hs3,h3,hx3⟩
 have hp3 := (uh HP2).oth hx3 hA
 have c9 := hp3.clean
 have f9 := hp3.clean_f
 have HP3 := zh (hp3.set_clean (btest x 2))
 have HS3 := zh (h3.set A 9 (.bool (btest x 2)) hA hA0)
 have HST3 : Hid (∀ n st',Stp (bindR two? fun k => bindR (props? 1) fun pr => bindR text? fun c => restC x k pr c) st3 n st' -> Stp connectP? st n st') := fun n st' k => (uh HST2) n st' ((Stp.yes (uh HV)).bind (hs3.bind k))
 have HB3 : Hid (B2 R A w (w3.setCell ⟨A,9,none⟩ (.bool (btest x 2)))) := ((uh HB2).trans (B2.bx hx3)).set 9 _
 have b2 := and2 x hx.1 hx.2
 clear h3 hx3 hs3 hp3 HP2 HS2 HST2 HB2 HV hv5 hv
 go_wp2_with fail
 refine (pair_pg R st3 w0 _ (uh HS3)).mono ?_
 rintro e w4 ⟨k,st4,rfl,hk,hs4,h4,hx4⟩
 have hp4 := (uh HP3).oth hx4 hA
 have c10 := hp4.keep
 have f10 := hp4.keep_f
 have HP4 := zh (hp4.set_keep k)
 have HS4 := zh (h4.set A 10 (.int .i64 k) hA hA0)
 have HST4 : Hid (∀ n st',Stp (bindR (props? 1) fun pr => bindR text? fun c => restC x k pr c) st4 n st' -> Stp connectP? st n st') := fun n st' k => (uh HST3) n st' (hs4.bind k)
 have HB4 : Hid (B2 R A w (w4.setCell ⟨A,10,none⟩ (.int .i64 k))) := ((uh HB3).trans (B2.bx hx4)).set 10 _
 clear h4 hx4 hs4 hp4 HP3 HS3 HST3 HB3 c9 f9 b2 hk
 go_wp2_with fail
 refine (props_pg R 1 st4 w0 _ (uh HS4)).mono ?_
 rintro e w5 ⟨tp,pr,st5,rfl,hO5,hs5,h5,hx5⟩
 have hp5 := (uh HP4).oth hx5 hA
 have c7 := hp5.props
 have f7 := hp5.props_f
 have HP5 := zh (hp5.set_props tp)
 have HS5 := zh (h5.set A 7 tp.val hA hA0)
 have HST5 : Hid (∀ n st',Stp (bindR text? fun c => restC x k pr c) st5 n st' -> Stp connectP? st n st') := fun n st' k => (uh HST4) n st' (hs5.bind k)
 have HB5 : Hid (B2 R A w (w5.setCell ⟨A,7,none⟩ tp.val)) := ((uh HB4).trans (B2.bx hx5)).set 7 _
 have HO5 : Hid ((w5.setCell ⟨A,7,none⟩ tp.val).ownsRow w.heap.size 120 4 tp.val pr.length (pcs pr)) := owns_mono (owns_b2 (R := R) (uh hO5) ((B2.refl R A w5).set 7 _) (Nat.lt_of_lt_of_le hRw (uh HB4).size) (Nat.lt_of_lt_of_le hAw (uh HB4).size)) (uh HB4).size
 clear h5 hx5 hs5 hp5 hO5 HP4 HS4 HST4 HB4 c10 f10
 go_wp2_with fail
 refine (text_pg R st5 w0 _ (uh HS5)).mono ?_
 rintro e w6 ⟨c,st6,rfl,hs6,h6,hx6⟩
 have hp6 := (uh HP5).oth hx6 hA
 have c8 := hp6.client
 have f8 := hp6.client_f
 have HP6 := zh (hp6.set_client c)
 have HS6 := zh (h6.set A 8 (.string c) hA hA0)
 have HST6 : Hid (∀ n st',Stp (restC x k pr c) st6 n st' -> Stp connectP? st n st') := fun n st' k => (uh HST5) n st' (hs6.bind k)
 have HB6 : Hid (B2 R A w (w6.setCell ⟨A,8,none⟩ (.string c))) := ((uh HB5).trans (B2.bx hx6)).set 8 _
 have HO6 : Hid ((w6.setCell ⟨A,8,none⟩ (.string c)).ownsRow w.heap.size 120 4 tp.val pr.length (pcs pr)) := owns_b2 (R := R) (A := A) (uh HO5) ((B2.bx hx6).set 8 _) hRw hAw
 clear h6 hx6 hs6 hp6 HP5 HS5 HST5 HB5 HO5 c7 f7
 go_upto_region 7 with fail
 generalize w6.setCell ⟨A,8,none⟩ (.string c) = wq at HP6 HS6 HB6 HO6 |-
 clear c8 f8
 go_cut [57] from 6 (fun s57 wx => s57 = .bool (!okF x) /\ wx = wq)
 case first =>
  cases h1 : (bits .and .i64 x 1 != 0)
  ·cases h4 : (bits .and .i64 x 4 == 0)
   ·cases h24 : (bits .and .i64 x 24 == 24)
    ·go_wp2
     go_meet
     case rel => exact ⟨by unfold okF; rw [h1,h4,h24]; rfl,rfl⟩
    ·go_wp2
     go_meet
     case rel => exact ⟨by unfold okF; rw [h1,h4,h24]; rfl,rfl⟩
   ·cases h56 : (bits .and .i64 x 56 != 0)
    ·cases h24 : (bits .and .i64 x 24 == 24)
     ·go_wp2
      go_meet
      case rel => exact ⟨by unfold okF; rw [h1,h4,h56,h24]; rfl,rfl⟩
     ·go_wp2
      go_meet
      case rel => exact ⟨by unfold okF; rw [h1,h4,h56,h24]; rfl,rfl⟩
    ·go_wp2
     go_meet
     case rel => exact ⟨by unfold okF; rw [h1,h4,h56]; simp,rfl⟩
  ·go_wp2
   go_meet
   case rel => exact ⟨by unfold okF; rw [h1]; simp,rfl⟩
 case rest =>
 obtain ⟨rfl,hwq⟩ := hcut
 obtain rfl : wc = wq := hwq
 obtain ⟨wq,hwq⟩ : ∃ wq,wq = wc := ⟨_,rfl⟩
 subst hwq
 cases hok : okF x
 ·obtain ⟨bb,c2,f2,_⟩ := (uh HS6).c2
  have HV : Hid (cfok x = false) := (okF_is x hx.1 hx.2).symm.trans hok
  go_wp2
  go_end0
  exact ⟨rfl,_,cn0,none,(uh HP6).blk (Below.heap_setCell _ _ _ _ hA),(uh HST6) _ _ ((Stp.not (uh HV)).bind rfl),(uh HS6).bad,(uh HB6).setR 2 _,.inl rfl⟩
 have HOK : Hid (cfok x = true) := (okF_is x hx.1 hx.2).symm.trans hok
 have hRq : R < wq.heap.size := (uh HS6).lt
 have hwqs : w.heap.size <= wq.heap.size := (uh HB6).size
 have hAq : A < wq.heap.size := (uh HP6).lt
 have h0q : w0.heap.size <= wq.heap.size := (uh HS6).keep.size
 have b4 := and4 x hx.1 hx.2
 have b32 := and32 x hx.1 hx.2
 have b64 := and64 x hx.1 hx.2
 have b128 := and128 x hx.1 hx.2
 have b3 := shq x hx.1 hx.2
 clear hok
 go_upto_if 63 with fail
 go_cut [] from 5 (fun wx => ∃ (wl : Option (List Pr × ByteArray × ByteArray)) (tw : Sl) (st7 : Option (List Int)),Hid (Stp (will? x) st6 wl st7) /\ Hid (RP w0 wx R st7) /\ Hid (Pk wx A { pk0 1 d q r with clean := btest x 2,keep := k,props := tp,client := c,wills := tw }) /\ Hid (B2 R A wq wx) /\ Hid (∃ ws,wx.ownsRow wq.heap.size 73 5 tw.val (wlOf x wl).length (wcs ws) /\ Ws wx wq.heap.size ws (wlOf x wl)))
 case first =>
  cases h4 : btest x 4
  ·rw [h4] at b4
   go_wp2
   go_meet
   case rel => exact ⟨none,sl0,st6,(by show Stp _ _ _ _; unfold will?; rw [h4]; exact Stp.pure _ _),HS6,HP6,B2.refl _ _ _,wills0 _ _⟩
  ·rw [h4] at b4
   go_wp2_with fail
   refine (props_pg R 16 st6 w0 _ ((uh HS6).below (al _))).mono ?_
   rintro e wa ⟨tq,pq,sta,rfl,hOa,hsa,ha,hxa⟩
   have hVlt : wq.heap.size < wa.heap.size := by have := hxa.size; simp at this; omega
   have hVb : wa.heap[wq.heap.size]? = some (.cells #[.string ⟨#[]⟩,.string ⟨#[]⟩,.int .i64 (x / 8 % 4),.bool (btest x 32),.slice none 0 0] 73) := (hxa.block wq.heap.size (by simp) (by omega)).trans Array.getElem?_push_size
   have a4 : wa.cell? ⟨wq.heap.size,4,none⟩ = some (.slice none 0 0) := by simp [World.cell?,hVb]
   have fr : ∀ j,wa.frozen? ⟨wq.heap.size,j,none⟩ = false := fun j => (hxa.frz (p := ⟨wq.heap.size,j,none⟩) (by simp) (by simp; omega)).trans (by simp)
   have g4 := fr 4
   have HSa := zh (ha.set wq.heap.size 4 tq.val (by omega) h0q)
   have HPa := zh ((((uh HP6).below (al (.cells #[.string ⟨#[]⟩,.string ⟨#[]⟩,.int .i64 (x / 8 % 4),.bool (btest x 32),.slice none 0 0] 73))).oth hxa hA).blk (w' := wa.setCell ⟨wq.heap.size,4,none⟩ tq.val) (Below.heap_setCell _ _ _ _ (by show A ≠ wq.heap.size; omega)))
   have HBa : Hid (B2 R A wq (wa.setCell ⟨wq.heap.size,4,none⟩ tq.val)) := ((B2.bel (al _)).trans (B2.bx hxa)).setOut _ 4 _ (Nat.le_refl _)
   have HVa : Hid ((wa.setCell ⟨wq.heap.size,4,none⟩ tq.val).heap[wq.heap.size]? = some (.cells #[.string ⟨#[]⟩,.string ⟨#[]⟩,.int .i64 (x / 8 % 4),.bool (btest x 32),tq.val] 73)) := heap_set hVb
   have HOa : Hid ((wa.setCell ⟨wq.heap.size,4,none⟩ tq.val).ownsRow (wq.heap.size + 1) 120 4 tq.val pq.length (pcs pq)) := by
    have k := uh hOa
    simp only [World.alloc,Array.size_push] at k
    exact owns_out k (Nat.lt_succ_self _)
   have HSTa := zh hsa
   have FR := zh fr
   clear ha hxa hsa hOa hVb fr
   go_wp2_with fail
   refine (text_pg R sta w0 _ (uh HSa)).mono ?_
   rintro e wb ⟨t,stb,rfl,hsb,hb,hxb⟩
   have hsab : (wa.setCell ⟨wq.heap.size,4,none⟩ tq.val).heap.size = wa.heap.size := by simp [World.setCell]
   have hVb : wb.heap[wq.heap.size]? = some (.cells #[.string ⟨#[]⟩,.string ⟨#[]⟩,.int .i64 (x / 8 % 4),.bool (btest x 32),tq.val] 73) := (hxb.block wq.heap.size (by rw [hsab]; exact hVlt) (by omega)).trans (uh HVa)
   have v0 : wb.cell? ⟨wq.heap.size,0,none⟩ = some (.string ⟨#[]⟩) := by simp [World.cell?,hVb]
   have fr : ∀ j,wb.frozen? ⟨wq.heap.size,j,none⟩ = false := fun j => (hxb.frz (p := ⟨wq.heap.size,j,none⟩) (by rw [hsab]; exact hVlt) (by simp; omega)).trans (by simpa using (uh FR) j)
   have g0 := fr 0
   have hVltb : wq.heap.size < wb.heap.size := Nat.lt_of_lt_of_le hVlt (by rw [<- hsab]; exact hxb.size)
   have HSb := zh (hb.set wq.heap.size 0 (.string t) (by omega) h0q)
   have HPb := zh (((uh HPa).oth hxb hA).blk (w' := wb.setCell ⟨wq.heap.size,0,none⟩ (.string t)) (Below.heap_setCell _ _ _ _ (by show A ≠ wq.heap.size; omega)))
   have HBb : Hid (B2 R A wq (wb.setCell ⟨wq.heap.size,0,none⟩ (.string t))) := ((uh HBa).trans (B2.bx hxb)).setOut _ 0 _ (Nat.le_refl _)
   have HVb : Hid ((wb.setCell ⟨wq.heap.size,0,none⟩ (.string t)).heap[wq.heap.size]? = some (.cells #[.string t,.string ⟨#[]⟩,.int .i64 (x / 8 % 4),.bool (btest x 32),tq.val] 73)) := heap_set hVb
   have HOb : Hid ((wb.setCell ⟨wq.heap.size,0,none⟩ (.string t)).ownsRow (wq.heap.size + 1) 120 4 tq.val pq.length (pcs pq)) := owns_out (owns_bx (uh HOa) hxb (by omega)) (Nat.lt_succ_self _)
   have HSTb := zh hsb
   have FRb := zh fr
   clear hb hxb hsb hVb fr HSa HPa HBa HVa HOa FR a4 g4 hsab hVlt
   go_wp2_with fail
   refine (bin_pg R stb w0 _ (uh HSb)).mono ?_
   rintro e wd ⟨y,stc,rfl,hsc,hc,hxc⟩
   have hsab : (wb.setCell ⟨wq.heap.size,0,none⟩ (.string t)).heap.size = wb.heap.size := by simp [World.setCell]
   have hVb : wd.heap[wq.heap.size]? = some (.cells #[.string t,.string ⟨#[]⟩,.int .i64 (x / 8 % 4),.bool (btest x 32),tq.val] 73) := (hxc.block wq.heap.size (by rw [hsab]; exact hVltb) (by omega)).trans (uh HVb)
   have v1 : wd.cell? ⟨wq.heap.size,1,none⟩ = some (.string ⟨#[]⟩) := by simp [World.cell?,hVb]
   have g1 : wd.frozen? ⟨wq.heap.size,1,none⟩ = false := (hxc.frz (p := ⟨wq.heap.size,1,none⟩) (by rw [hsab]; exact hVltb) (by simp; omega)).trans (by simpa using (uh FRb) 1)
   have HSc := zh (hc.set wq.heap.size 1 (.string y) (by omega) h0q)
   have HPc := zh (((uh HPb).oth hxc hA).blk (w' := wd.setCell ⟨wq.heap.size,1,none⟩ (.string y)) (Below.heap_setCell _ _ _ _ (by show A ≠ wq.heap.size; omega)))
   have HBc : Hid (B2 R A wq (wd.setCell ⟨wq.heap.size,1,none⟩ (.string y))) := ((uh HBb).trans (B2.bx hxc)).setOut _ 1 _ (Nat.le_refl _)
   have HVc : Hid ((wd.setCell ⟨wq.heap.size,1,none⟩ (.string y)).heap[wq.heap.size]? = some (.cells #[.string t,.string y,.int .i64 (x / 8 % 4),.bool (btest x 32),tq.val] 73)) := heap_set hVb
   have HOc : Hid ((wd.setCell ⟨wq.heap.size,1,none⟩ (.string y)).ownsRow (wq.heap.size + 1) 120 4 tq.val pq.length (pcs pq)) := owns_out (owns_bx (uh HOb) hxc (by omega)) (Nat.lt_succ_self _)
   have HST7 : Hid (Stp (will? x) st6 (some (pq,t,y)) stc) := by
    show Stp _ _ _ _
    unfold will?
    rw [if_pos h4]
    exact (uh HSTa).bind ((uh HSTb).bind (hsc.bind (Stp.pure _ _)))
   clear hc hxc hsc hVb HSb HPb HBb HVb HOb FRb v0 g0 hsab hVltb HSTa HSTb
   go_upto_region 14 with fail
   generalize wd.setCell ⟨wq.heap.size,1,none⟩ (.string y) = we at HSc HPc HBc HVc HOc |-
   clear v1 g1
   have hVe := uh HVc
   have d0 : we.cell? ⟨wq.heap.size,0,none⟩ = some (.string t) := by simp [World.cell?,hVe]
   have d1 : we.cell? ⟨wq.heap.size,1,none⟩ = some (.string y) := by simp [World.cell?,hVe]
   have d2 : we.cell? ⟨wq.heap.size,2,none⟩ = some (.int .i64 (x / 8 % 4)) := by simp [World.cell?,hVe]
   have d3 : we.cell? ⟨wq.heap.size,3,none⟩ = some (.bool (btest x 32)) := by simp [World.cell?,hVe]
   have d4 : we.cell? ⟨wq.heap.size,4,none⟩ = some tq.val := by simp [World.cell?,hVe]
   have hpe := (uh HPc).below (al (.cells #[.string t,.string y,.int .i64 (x / 8 % 4),.bool (btest x 32),tq.val] 73))
   have c11 := hpe.wills
   have f11 := hpe.wills_f
   simp only [pk0] at c11
   have HPe := zh hpe
   clear hpe
   clear hVe
   go_wp2
   go_meet
   case rel =>
    have hqe : wq.heap.size <= we.heap.size := (uh HBc).size
    refine ⟨some (pq,t,y),⟨some ⟨we.heap.size,0,none⟩,1,1⟩,stc,HST7,((uh HSc).below (al _)).set A 11 _ hA hA0,(uh HPe).set_wills ⟨some ⟨we.heap.size,0,none⟩,1,1⟩,((uh HBc).trans (B2.bel (al _))).set 11 _,⟨[⟨t,y,x / 8 % 4,btest x 32,tq⟩],new_row (by omega) hqe rfl rfl,rfl,fun i a b ha hb => ?_⟩⟩
    match i,ha,hb with
    | 0,ha,hb =>
     simp [wlOf] at ha hb
     subst ha hb
     exact ⟨rfl,rfl,rfl,rfl,owns_mono (owns_b2 (R := R) (A := A) ((uh HOc).alloc _) ((B2.refl R A _).set 11 _) (by omega) (by omega)) (Nat.le_succ _)⟩
    | i + 1,ha,_ => simp at ha
 case rest =>
 obtain ⟨wl,tw,st7,HST7,HS7,HP7,HB7,HW7⟩ := hcut
 obtain ⟨wt,hwt⟩ : ∃ wt,wt = wc := ⟨_,rfl⟩
 subst hwt
 have HO7 : Hid (wt.ownsRow w.heap.size 120 4 tp.val pr.length (pcs pr)) := owns_b2 (uh HO6) (uh HB7) hRw hAw
 have HB7' : Hid (B2 R A w wt) := (uh HB6).trans (uh HB7)
 have hq7 : wq.heap.size <= wt.heap.size := (uh HB7).size
 clear HO6 HB6 HP6 HS6 b4 b32 b3
 go_upto_if 87 with fail
 go_cut [] from 5 (fun wx => ∃ (us : Option ByteArray) (tu : Sl) (st8 : Option (List Int)),Hid (Stp (user? x) st7 us st8) /\ Hid (RP w0 wx R st8) /\ Hid (Pk wx A { pk0 1 d q r with clean := btest x 2,keep := k,props := tp,client := c,wills := tw,user := tu }) /\ Hid (B2 R A wt wx) /\ Hid (wx.ownsRow wt.heap.size 9 1 tu.val us.toList.length (us.toList.map Value.string)))
 case first =>
  cases h4 : btest x 128
  ·rw [h4] at b128
   go_wp2
   go_meet
   case rel => exact ⟨none,sl0,st7,(by show Stp _ _ _ _; unfold user?; rw [h4]; exact Stp.pure _ _),HS7,HP7,B2.refl _ _ _,row0 _ _ _ _⟩
  ·rw [h4] at b128
   go_wp2_with fail
   refine (text_pg R st7 w0 _ (uh HS7)).mono ?_
   rintro e wa ⟨u,sta,rfl,hsa,ha,hxa⟩
   have hpa := ((uh HP7).oth hxa hA).below (al (.cells #[.string u] 9))
   have c12 := hpa.user
   have f12 := hpa.user_f
   simp only [pk0] at c12
   have HPa := zh hpa
   have HSa := zh ha
   have HXa := zh hxa
   have HSTa := zh hsa
   clear ha hxa hsa hpa
   go_wp2
   go_meet
   case rel =>
    have hqe : wt.heap.size <= wa.heap.size := (uh HXa).size
    have hAa : A < wa.heap.size := Nat.lt_of_lt_of_le hAq (Nat.le_trans hq7 hqe)
    exact ⟨some u,⟨some ⟨wa.heap.size,0,none⟩,1,1⟩,sta,(by show Stp _ _ _ _; unfold user?; rw [if_pos h4]; exact (uh HSTa).bind (Stp.pure _ _)),((uh HSa).below (al _)).set A 12 _ hA hA0,(uh HPa).set_user ⟨some ⟨wa.heap.size,0,none⟩,1,1⟩,((B2.bx (uh HXa)).trans (B2.bel (al _))).set 12 _,new_row hAa hqe rfl rfl⟩
 case rest =>
 obtain ⟨us,tu,st8,HST8,HS8,HP8,HB8,HU8⟩ := hcut
 obtain ⟨wz,hwz⟩ : ∃ wz,wz = wc := ⟨_,rfl⟩
 subst hwz
 have hz : wt.heap.size <= wz.heap.size := (uh HB8).size
 have HO8 : Hid (wz.ownsRow w.heap.size 120 4 tp.val pr.length (pcs pr)) := owns_b2 (uh HO7) (uh HB8) hRw hAw
 have hwq : w.heap.size <= wq.heap.size := hwqs
 have HW8 : Hid (∃ ws,wz.ownsRow wq.heap.size 73 5 tw.val (wlOf x wl).length (wcs ws) /\ Ws wz wq.heap.size ws (wlOf x wl)) := by
  obtain ⟨ws,a,b,c⟩ := uh HW7
  exact ⟨ws,owns_b2 a (uh HB8) hRq hAq,b,fun i u v hu hv => ⟨(c i u v hu hv).1,(c i u v hu hv).2.1,(c i u v hu hv).2.2.1,(c i u v hu hv).2.2.2.1,owns_b2 (c i u v hu hv).2.2.2.2 (uh HB8) hRq hAq⟩⟩
 have HB8' : Hid (B2 R A w wz) := (uh HB7').trans (uh HB8)
 have hRz : R < wt.heap.size := Nat.lt_of_lt_of_le hRq hq7
 have hAz : A < wt.heap.size := Nat.lt_of_lt_of_le hAq hq7
 -- whatever comes of the password,the end
 have HEND : Hid (∀ (W : World) (pa : Option ByteArray) (ta : Sl) (st9 : Option (List Int)),B2 R A wz W -> Stp (pass? x) st8 pa st9 -> RP w0 W R st9 -> Pk W A { pk0 1 d q r with clean := btest x 2,keep := k,props := tp,client := c,wills := tw,user := tu,pass := ta } -> W.ownsRow wz.heap.size 9 1 ta.val pa.toList.length (pa.toList.map Value.string) -> ConnPg w0 R A (pa0 1 d q r) st w (.returned (.tuple #[])) W) := by
  intro W pa ta st9 hB hst hS hP hO
  refine ⟨rfl,_,⟨x,k,pr,c,wl,us,pa⟩,st9,hP,(uh HST6) _ _ ((Stp.yes (uh HOK)).bind ((uh HST7).bind ((uh HST8).bind (hst.bind (Stp.pure _ _))))),hS,(uh HB8').trans hB,.inr ?_⟩
  refine ⟨⟨rfl,rfl,rfl,rfl,rfl,rfl,rfl,rfl,rfl,rfl,rfl,rfl⟩,owns_b2 (uh HO8) hB hRw hAw,?_,owns_mono (owns_b2 (uh HU8) hB hRz hAz) (Nat.le_trans hwq hq7),owns_mono hO (Nat.le_trans (Nat.le_trans hwq hq7) hz),row0 _ _ _ _,row0 _ _ _ _,row0 _ _ _ _⟩
  obtain ⟨ws,a,b,c⟩ := uh HW8
  exact ⟨ws,owns_mono (owns_b2 a hB hRq hAq) hwq,b,fun i u v hu hv => ⟨(c i u v hu hv).1,(c i u v hu hv).2.1,(c i u v hu hv).2.2.1,(c i u v hu hv).2.2.2.1,owns_mono (owns_b2 (c i u v hu hv).2.2.2.2 hB hRq hAq) hwq⟩⟩
 have hAwz : A < wz.heap.size := Nat.lt_of_lt_of_le hAz hz
 clear HST6 HOK HST7 HST8 HW7 HW8 HO7 HO8 HU8 HB7 HB7' HB8 HB8' HS7 HP7 hwqs
 cases h4 : btest x 64
 ·rw [h4] at b64
  go_wp2
  go_end0
  exact uh HEND wz none sl0 st8 (B2.refl _ _ _) (by unfold pass?; rw [h4]; exact Stp.pure _ _) (uh HS8) (uh HP8) (row0 _ _ _ _)
 ·rw [h4] at b64
  go_wp2_with fail
  refine (bin_pg R st8 w0 _ (uh HS8)).mono ?_
  rintro e wa ⟨u,sta,rfl,hsa,ha,hxa⟩
  have hpa := ((uh HP8).oth hxa hA).below (al (.cells #[.string u] 9))
  have c13 := hpa.pass
  have f13 := hpa.pass_f
  simp only [pk0] at c13
  have HPa := zh hpa
  have HSa := zh ha
  have HXa := zh hxa
  have HSTa := zh hsa
  clear ha hxa hsa hpa
  go_wp2
  go_end0
  have hqe : wz.heap.size <= wa.heap.size := (uh HXa).size
  exact uh HEND _ (some u) ⟨some ⟨wa.heap.size,0,none⟩,1,1⟩ sta (((B2.bx (uh HXa)).trans (B2.bel (al _))).set 13 _) (by unfold pass?; rw [if_pos h4]; exact (uh HSTa).bind (Stp.pure _ _)) (((uh HSa).below (al _)).set A 13 _ hA hA0) ((uh HPa).set_pass ⟨some ⟨wa.heap.size,0,none⟩,1,1⟩) (new_row (Nat.lt_of_lt_of_le hAwz hqe) hqe rfl rfl)
end Go.Proofs.YtpoeakillimibaaGreatDoor.K
