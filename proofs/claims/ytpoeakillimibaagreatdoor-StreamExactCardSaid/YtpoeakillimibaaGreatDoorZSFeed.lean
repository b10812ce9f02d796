/- Proved here: stream's Feed. Helper contracts. -/
import Derived.Test.YtpoeakillimibaaGreatDoorZSWhole
import Derived.Test.YtpoeakillimibaaGreatDoorZSApp
set_option maxHeartbeats 20000000
namespace Go.Proofs.YtpoeakillimibaaGreatDoor.K
open Go.RowKit
set_option maxRecDepth 100000
theorem swhole_any (S : Nat) (lim : Int) (hv : Value) (L : List Int) (w : World) (B : Nat) (hr : w.ownsRow B 5 1 hv L.length (L.map (Value.int .u8))) (rng : ∀ j,0 <= L.getD j 0 /\ L.getD j 0 <= 255) (hS : w.cell? ⟨S,0,none⟩ = some (.int .i64 lim)) (hS1 : w.cell? ⟨S,1,none⟩ = some hv) (hlim : 2 <= lim) (hLN : L.length <= 1073741824) :
  Calls Tryz.prog 80 #[.pointer (some ⟨S,0,none⟩)] w (WholePost lim L w) := by
 have hy := byt_of_owns hr rng
 rcases hr.2 with ⟨rfl,h0⟩ | ⟨g,cap,cur,rfl,_⟩
 ·obtain rfl : L = [] := List.length_eq_zero_iff.1 h0
  exact swhole_nil S lim w hS hS1 hlim
 ·exact swhole_own S lim g 0 cap L w hy hS hS1 hlim hLN
structure Str (w : World) (S : Nat) (lim f : Int) (hv : Value) (L : List Int) : Prop where
 c0 : w.cell? ⟨S,0,none⟩ = some (.int .i64 lim)
 c1 : w.cell? ⟨S,1,none⟩ = some hv
 c2 : w.cell? ⟨S,2,none⟩ = some (.int .i64 f)
 f1 : w.frozen? ⟨S,1,none⟩ = false
 f2 : w.frozen? ⟨S,2,none⟩ = false
 row : w.ownsRow (S + 1) 5 1 hv L.length (L.map (Value.int .u8))
 rng : ∀ j,0 <= L.getD j 0 /\ L.getD j 0 <= 255
theorem Str.below {w w' : World} {S : Nat} {lim f : Int} {hv : Value} {L : List Int} (h : Str w S lim f hv L) (hb : Below w.heap.size w w') : Str w' S lim f hv L :=
 have hS : S < w.heap.size := cell_lt h.c0
 ⟨(hb.cell hS).trans h.c0,(hb.cell hS).trans h.c1,(hb.cell hS).trans h.c2,(hb.frozen hS).trans h.f1,(hb.frozen hS).trans h.f2,owns_below h.row hb,h.rng⟩
structure FB (S : Nat) (row : Option Nat) (w w' : World) : Prop where
 os : w'.os = w.os
 tape : w'.tape = w.tape
 output : w'.output = w.output
 size : w.heap.size <= w'.heap.size
 block : ∀ k,k < w.heap.size -> k ≠ S -> some k ≠ row -> w'.heap[k]? = w.heap[k]?
theorem FB.refl (S : Nat) (row : Option Nat) (w : World) : FB S row w w := ⟨rfl,rfl,rfl,Nat.le_refl _,fun _ _ _ _ => rfl⟩
theorem FB.trans {S : Nat} {row row' : Option Nat} {a b c : World} (h : FB S row a b) (k : FB S row' b c) (hr : ∀ g,row' = some g -> row = some g \/ a.heap.size <= g) : FB S row a c :=
 ⟨k.os.trans h.os,k.tape.trans h.tape,k.output.trans h.output,Nat.le_trans h.size k.size,fun i hi hS hrow => (k.block i (Nat.lt_of_lt_of_le hi h.size) hS (fun e => by
  rcases hr i e.symm with e' | e'
  ·exact hrow e'.symm
  ·omega)).trans (h.block i hi hS hrow)⟩
theorem FB.of_below {S : Nat} {row : Option Nat} {a b : World} (h : Below a.heap.size a b) : FB S row a b := ⟨h.os,h.tape,h.output,h.size,fun k hk _ _ => h.block k hk⟩
theorem FB.of_grown {S : Nat} {row : Option Nat} {a b : World} (h : a.grownBy b row) : FB S row a b := ⟨h.os,h.tape,h.output,h.size,fun k hk _ hr => h.block k hk hr⟩
theorem FB.of_bx {S : Nat} {row : Option Nat} {may : Nat -> Prop} {a b : World} (h : BX S may a b) : FB S row a b := ⟨h.os,h.tape,h.output,h.size,fun k hk hS _ => h.block k hk hS⟩
theorem FB.laid {S : Nat} {row : Option Nat} {a b : World} (h : FB S row a b) (hg : Laid a) (hS : 0 ≠ S) (hr : ∀ g,row = some g -> S + 1 <= g) : Laid b := by
 have k : b.heap[0]? = a.heap[0]? := h.block 0 hg.pos hS (fun e => by have := hr 0 e.symm; omega)
 unfold Laid at *
 exact (World.cell?_of_block (a := ⟨0,0,none⟩) k).trans hg
theorem Str.pos {w : World} {S : Nat} {lim f : Int} {hv : Value} {L : List Int} (h : Str w S lim f hv L) (hg : Laid w) : 0 ≠ S := by
 rintro rfl
 have k := h.c0
 unfold Laid at hg
 rw [hg] at k
 cases k
theorem owns_blk {w : World} {B : Nat} {e : TypeId} {s : Nat} {v : Value} {n : Nat} {xs : List Value} (h : w.ownsRow B e s v n xs) : ∀ g,v.ownBlock = some g -> B <= g := by
 intro g hg
 rcases h.2 with ⟨rfl,_⟩ | ⟨g',cap,cur,rfl,hB,_⟩
 ·cases hg
 ·cases hg
  exact hB
theorem Str.put {w w1 : World} {S : Nat} {lim f : Int} {hv v1 : Value} {L M : List Int} {row : Option Nat} (h : Str w S lim f hv L) (hg : w.grownBy w1 row) (hr : ∀ g,row = some g -> S + 1 <= g) (ho : w1.ownsRow (S + 1) 5 1 v1 M.length (M.map (Value.int .u8))) (rng : ∀ j,0 <= M.getD j 0 /\ M.getD j 0 <= 255) : Str (w1.setCell ⟨S,1,none⟩ v1) S lim f v1 M := by
 have hS : S < w.heap.size := cell_lt h.c0
 have hb : w1.heap[S]? = w.heap[S]? := hg.block S hS (fun e => by have := hr S e.symm; omega)
 have hc : ∀ j,w1.cell? ⟨S,j,none⟩ = w.cell? ⟨S,j,none⟩ := fun j => World.cell?_of_block hb
 have hf : ∀ j,w1.frozen? ⟨S,j,none⟩ = w.frozen? ⟨S,j,none⟩ := fun j => World.frozen?_of_block hb
 exact ⟨(World.cell?_setCell_other _ _ _ _ (fun e => by simp at e)).trans ((hc 0).trans h.c0),World.cell?_setCell_same _ _ _ ((hc 1).trans h.c1),(World.cell?_setCell_other _ _ _ _ (fun e => by simp at e)).trans ((hc 2).trans h.c2),by rw [World.frozen?_setCell]; exact (hf 1).trans h.f1,by rw [World.frozen?_setCell]; exact (hf 2).trans h.f2,owns_out ho (Nat.lt_succ_self _),rng⟩
theorem FB.put {S : Nat} {row : Option Nat} {a b : World} (h : FB S row a b) (v : Value) : FB S row a (b.setCell ⟨S,1,none⟩ v) :=
 h.trans (row' := none) (FB.of_bx ((BX.refl S isAny b).set 1 v trivial)) (fun g e => by cases e)
theorem drop_rng {M : List Int} (h : ∀ j,0 <= M.getD j 0 /\ M.getD j 0 <= 255) (n : Nat) : ∀ j,0 <= (M.drop n).getD j 0 /\ (M.drop n).getD j 0 <= 255 := fun j => by
 have k := h (n + j)
 rw [List.getD_eq_getElem?_getD,List.getElem?_drop,<- List.getD_eq_getElem?_getD]
 exact k
def FedTo (S : Nat) (lim : Int) (hv : Value) (M : List Int) (w : World) (e : Ending) (w' : World) : Prop :=
 ∃ (v E : Value) (qs : List Pkv) (Ps : List Pa) (n : Nat) (m : Int) (hv' : Value),e = .returned (.tuple #[v,E]) /\ n <= M.length /\ SRun lim M Ps n m /\ m ≠ 0 /\ Pks w' w.heap.size v qs Ps /\
  ((m = 3 /\ E = .nilIface /\ Str w' S lim 0 hv' (M.drop n)) \/ (m ≠ 3 /\ (∃ x,E = .iface 149 x) /\ ErB w' w.heap.size E m /\ Str w' S lim m hv' [])) /\
  (hv'.ownBlock = hv.ownBlock \/ ∀ g,hv'.ownBlock = some g -> w.heap.size <= g) /\ FB S hv.ownBlock w w'
theorem sfeed_bad (S : Nat) (lim f : Int) (hv : Value) (L : List Int) (vb : Value) (ys : List Int) (w : World) (h : Str w S lim f hv L) (hy : Byt w vb ys) (hf : f ≠ 0) : Calls Tryz.prog 39 #[.pointer (some ⟨S,0,none⟩),vb] w fun e w' => ∃ x,e = .returned (.tuple #[.slice none 0 0,.iface 149 x]) /\ Hid (ErB w' w.heap.size (.iface 149 x) f) /\ Below w.heap.size w w' := by
 have c2 := h.c2
 have hf1 : (f == 0) = false := beq_eq_false_iff_ne.2 hf
 obtain ⟨ao,cap,rfl,_⟩ := hy.form
 clear h hy
 go_enter Tryz.func39,Tryz.ntmps39
 go_wp2_with fail
 refine (sfault_use f _).mono ?_
 rintro e w1 ⟨x,rfl,hE,hb⟩
 go_wp2
 go_returns
 exact ⟨_,rfl,hE,hb⟩
theorem sfeed_ok (S : Nat) (lim : Int) (hv : Value) (L : List Int) (vb : Value) (ys : List Int) (w : World) (hg : Laid w) (h : Str w S lim 0 hv L) (hy : Byt w vb ys) (hlim : 2 <= lim) (hLN : (L ++ ys).length <= 1073741824) : Calls Tryz.prog 39 #[.pointer (some ⟨S,0,none⟩),vb] w (FedTo S lim hv (L ++ ys) w) := by
 have hS : S < w.heap.size := cell_lt h.c0
 have hS0 := h.pos hg
 have hrow := owns_blk h.row
 have c1 := h.c1
 have c2 := h.c2
 have hrng : ∀ j,0 <= (L ++ ys).getD j 0 /\ (L ++ ys).getD j 0 <= 255 := by
  intro j
  have k1 := h.rng j
  have k2 := hy.range (j - L.length)
  by_cases hj : j < L.length
  ·rw [List.getD_eq_getElem?_getD,List.getElem?_append_left hj,<- List.getD_eq_getElem?_getD]; exact k1
  ·rw [List.getD_eq_getElem?_getD,List.getElem?_append_right (by omega),<- List.getD_eq_getElem?_getD]; exact k2
 have HH := zh h
 have HY := zh hy
 have HG := zh hg
 have HROW := zh hrow
 have HRNG := zh hrng
 have hlen : L.length + ys.length <= 1073741824 := by rw [<- List.length_append]; exact hLN
 obtain ⟨ao,cap,rfl,_⟩ := hy.form
 clear h hy hg hrow hrng
 go_enter Tryz.func39,Tryz.ntmps39
 go_wp2_with (first
  | (at_builtin; refine wpList_append_byt_at _ rfl _ _ rfl (S + 1) hv L.length L rfl (uh HH).row (.slice ao ys.length cap) ys rfl (uh HY) (by omega) (by omega) ?_)
  | go_in)
 intro v1 w1 hown1 hgrow1 hv1
 have k1 : w1.cell? ⟨S,1,none⟩ = some hv := (World.cell?_of_block (hgrow1.block S hS (fun e => by have := (uh HROW) S e.symm; omega))).trans c1
 have fz1 : w1.frozen? ⟨S,1,none⟩ = false := (World.frozen?_of_block (hgrow1.block S hS (fun e => by have := (uh HROW) S e.symm; omega))).trans (uh HH).f1
 have HST : Hid (Str (w1.setCell ⟨S,1,none⟩ v1) S lim 0 v1 (L ++ ys)) := (uh HH).put hgrow1 (uh HROW) (by rw [List.length_append,List.map_append]; exact hown1) (uh HRNG)
 have HFB : Hid (FB S hv.ownBlock w (w1.setCell ⟨S,1,none⟩ v1)) := (FB.of_grown hgrow1).put v1
 have HV1 : Hid (v1.ownBlock = hv.ownBlock \/ ∀ g,v1.ownBlock = some g -> w.heap.size <= g) := by
  rcases hv1 with e | e
  ·exact .inl e
  ·exact .inr (fun g k => by rw [e] at k; cases k; exact Nat.le_refl _)
 obtain ⟨a1,n1,p1,rfl⟩ : ∃ a1 n1 p1,v1 = .slice a1 n1 p1 := by
  rcases hown1.2 with ⟨rfl,_⟩ | ⟨g,cap,cur,rfl,_⟩
  ·exact ⟨_,_,_,rfl⟩
  ·exact ⟨_,_,_,rfl⟩
 clear hown1 hgrow1 hv1
 generalize hM : L ++ ys = M at HST HRNG hLN |-
 have HMM := zh hM
 clear hM hlen HH HY
 go_wp2_with fail
 have hS2 : S < (w1.setCell ⟨S,1,none⟩ (.slice a1 n1 p1)).heap.size := cell_lt (uh HST).c0
 generalize w1.setCell ⟨S,1,none⟩ (.slice a1 n1 p1) = w2 at HST HFB hS2 |-
 refine (swhole_any S lim _ M w2 (S + 1) (uh HST).row (uh HRNG) (uh HST).c0 (uh HST).c1 hlim hLN).mono ?_
 rintro e w3 ⟨v,n,E,qs,Ps,m,rfl,hn,HSR,hm0,HP3,HE3,hb3⟩
 have HST3 : Hid (Str w3 S lim 0 (.slice a1 n1 p1) M) := (uh HST).below hb3
 have HFB3 : Hid (FB S hv.ownBlock w w3) := (uh HFB).trans (row' := none) (FB.of_below hb3) (fun g e => by cases e)
 have HPK : Hid (Pks w3 w.heap.size v qs Ps) := ⟨owns_mono (uh HP3).row (uh HFB).size,(uh HP3).len,fun i q P h1 h2 => ((uh HP3).mean i q P h1 h2).base (uh HFB).size,(uh HP3).dist⟩
 clear hb3 HST HFB HP3 k1 c1 c2 fz1
 obtain ⟨d,hd,hE⟩ := uh HE3
 obtain ⟨t,x,rfl⟩ := hE.iface
 have HE := zh hE
 clear hE HE3
 go_wp2_with fail
 refine (er_Is d hd _ m 3 w3 (uh HE)).mono ?_
 rintro e w4 ⟨rfl,hw4⟩
 obtain rfl := hw4.symm
 clear hw4
 by_cases hm : m = 3
 ·subst hm
  by_cases hn0 : n = 0
  ·subst hn0
   go_wp2
   go_returns
   show FedTo S lim hv (L ++ ys) w _ _
   rw [uh HMM]
   exact ⟨_,_,qs,Ps,0,3,_,rfl,hn,uh HSR,hm0,uh HPK,.inl ⟨rfl,rfl,uh HST3⟩,uh HV1,uh HFB3⟩
  ·have hS3 : S < w3.heap.size := cell_lt (uh HST3).c0
   have hS3' : S + 1 <= w3.heap.size := hS3
   obtain ⟨g,rfl,rfl⟩ : ∃ g,a1 = some ⟨g,0,none⟩ /\ n1 = M.length := by
    rcases (uh HST3).row.2 with ⟨e,h0⟩ | ⟨g,cap,cur,e,_⟩
    ·omega
    ·cases e
     exact ⟨g,rfl,rfl⟩
   obtain ⟨hp1,hp2⟩ : M.length <= p1 /\ p1 <= maxLen := by
    obtain ⟨_,_,e,k1,k2⟩ := (byt_of_owns (uh HST3).row (uh HRNG)).form
    cases e
    exact ⟨k1,k2⟩
   unfold maxLen at hp2
   have HT0 := zh ((byt_of_owns (uh HST3).row (uh HRNG)).drop' n hn)
   have c1 := (uh HST3).c1
   generalize hN : M.length = N at *
   by_cases hpn : p1 = n
   ·obtain rfl : N = p1 := by omega
    subst hpn
    have HT : Hid (Byt w3 (.slice (some ⟨g,0,none⟩) 0 0) (M.drop N)) := by
     have k := uh HT0
     rw [if_pos rfl,Nat.sub_self] at k
     exact k
    clear HT0
    go_wp2_with (first
     | (at_builtin; refine wpList_append_byt_at _ rfl _ _ rfl (S + 1) (.slice none 0 0) 0 [] rfl (World.ownsRow_nil _ _ _ _) (.slice (some ⟨g,0,none⟩) 0 0) (M.drop N) rfl (uh HT) (by rw [List.length_drop]; omega) hS3' ?_)
     | go_in)
    intro v5 w5 hown5 hgrow5 hv5
    have HG5 := zh hgrow5
    have k1 : w5.cell? ⟨S,1,none⟩ = some (.slice (some ⟨g,0,none⟩) N N) := (World.cell?_of_block (hgrow5.block S hS3 (fun e => by cases e))).trans (uh HST3).c1
    have fz1 : w5.frozen? ⟨S,1,none⟩ = false := (World.frozen?_of_block (hgrow5.block S hS3 (fun e => by cases e))).trans (uh HST3).f1
    have HST5 : Hid (Str (w5.setCell ⟨S,1,none⟩ v5) S lim 0 v5 (M.drop N)) := (uh HST3).put hgrow5 (fun g e => by cases e) (by first | (rw [List.length_drop,hN,List.map_drop]; exact hown5) | simpa [List.map_drop,hN] using hown5) (drop_rng (uh HRNG) N)
    have HFB5 : Hid (FB S hv.ownBlock w (w5.setCell ⟨S,1,none⟩ v5)) := ((uh HFB3).trans (FB.of_grown hgrow5) (fun g e => by cases e)).put v5
    have HV5 : Hid (v5.ownBlock = hv.ownBlock \/ ∀ g,v5.ownBlock = some g -> w.heap.size <= g) := by
     rcases hv5 with e | e
     ·exact .inr (fun g k => by rw [e] at k; cases k)
     ·exact .inr (fun g k => by rw [e] at k; cases k; exact (uh HFB3).size)
    have HPK5 : Hid (Pks (w5.setCell ⟨S,1,none⟩ v5) w.heap.size v qs Ps) := by
     have hb : Below w3.heap.size w3 w5 := ⟨hgrow5.os,hgrow5.tape,hgrow5.output,hgrow5.size,fun k hk => hgrow5.block k hk (fun e => by cases e)⟩
     have kp := (uh HPK).below hb
     have hx := (BX.refl S isAny w5).set 1 v5 trivial
     exact ⟨owns_bx kp.row hx hS,kp.len,fun i q P h1 h2 => (kp.mean i q P h1 h2).bx hx hS,kp.dist⟩
    obtain ⟨a5,n5,p5,rfl⟩ : ∃ a1 n1 p1,v5 = .slice a1 n1 p1 := by
     rcases hown5.2 with ⟨rfl,_⟩ | ⟨g,cap,cur,rfl,_⟩
     ·exact ⟨_,_,_,rfl⟩
     ·exact ⟨_,_,_,rfl⟩
    clear hown5 hgrow5 hv5 HG5 HFB3 HPK HE
    go_wp2
    go_returns
    show FedTo S lim hv (L ++ ys) w _ _
    rw [uh HMM]
    exact ⟨_,_,qs,Ps,N,3,_,rfl,by rw [hN]; exact hn,uh HSR,hm0,uh HPK5,.inl ⟨rfl,rfl,uh HST5⟩,uh HV5,uh HFB5⟩
   ·have HT : Hid (Byt w3 (.slice (some ⟨g,0 + n,none⟩) (N - n) (p1 - n)) (M.drop n)) := by
     have k := uh HT0
     rw [if_neg hpn] at k
     exact k
    rw [Nat.zero_add] at HT
    clear HT0
    go_wp2_with (first
     | (at_builtin; refine wpList_append_byt_at _ rfl _ _ rfl (S + 1) (.slice none 0 0) 0 [] rfl (World.ownsRow_nil _ _ _ _) (.slice (some ⟨g,n,none⟩) (N - n) (p1 - n)) (M.drop n) rfl (uh HT) (by rw [List.length_drop]; omega) hS3' ?_)
     | go_in)
    intro v5 w5 hown5 hgrow5 hv5
    have HG5 := zh hgrow5
    have k1 : w5.cell? ⟨S,1,none⟩ = some (.slice (some ⟨g,0,none⟩) N p1) := (World.cell?_of_block (hgrow5.block S hS3 (fun e => by cases e))).trans (uh HST3).c1
    have fz1 : w5.frozen? ⟨S,1,none⟩ = false := (World.frozen?_of_block (hgrow5.block S hS3 (fun e => by cases e))).trans (uh HST3).f1
    have HST5 : Hid (Str (w5.setCell ⟨S,1,none⟩ v5) S lim 0 v5 (M.drop n)) := (uh HST3).put hgrow5 (fun g e => by cases e) (by first | (rw [List.length_drop,hN,List.map_drop]; exact hown5) | simpa [List.map_drop,hN] using hown5) (drop_rng (uh HRNG) n)
    have HFB5 : Hid (FB S hv.ownBlock w (w5.setCell ⟨S,1,none⟩ v5)) := ((uh HFB3).trans (FB.of_grown hgrow5) (fun g e => by cases e)).put v5
    have HV5 : Hid (v5.ownBlock = hv.ownBlock \/ ∀ g,v5.ownBlock = some g -> w.heap.size <= g) := by
     rcases hv5 with e | e
     ·exact .inr (fun g k => by rw [e] at k; cases k)
     ·exact .inr (fun g k => by rw [e] at k; cases k; exact (uh HFB3).size)
    have HPK5 : Hid (Pks (w5.setCell ⟨S,1,none⟩ v5) w.heap.size v qs Ps) := by
     have hb : Below w3.heap.size w3 w5 := ⟨hgrow5.os,hgrow5.tape,hgrow5.output,hgrow5.size,fun k hk => hgrow5.block k hk (fun e => by cases e)⟩
     have kp := (uh HPK).below hb
     have hx := (BX.refl S isAny w5).set 1 v5 trivial
     exact ⟨owns_bx kp.row hx hS,kp.len,fun i q P h1 h2 => (kp.mean i q P h1 h2).bx hx hS,kp.dist⟩
    obtain ⟨a5,n5,p5,rfl⟩ : ∃ a1 n1 p1,v5 = .slice a1 n1 p1 := by
     rcases hown5.2 with ⟨rfl,_⟩ | ⟨g,cap,cur,rfl,_⟩
     ·exact ⟨_,_,_,rfl⟩
     ·exact ⟨_,_,_,rfl⟩
    clear hown5 hgrow5 hv5 HG5 HFB3 HPK HE
    go_wp2
    go_returns
    show FedTo S lim hv (L ++ ys) w _ _
    rw [uh HMM]
    exact ⟨_,_,qs,Ps,n,3,_,rfl,by rw [hN]; exact hn,uh HSR,hm0,uh HPK5,.inl ⟨rfl,rfl,uh HST5⟩,uh HV5,uh HFB5⟩
 ·have hm1 : (m == 3) = false := beq_eq_false_iff_ne.2 hm
  have HG3 : Hid (Laid w3) := (uh HFB3).laid (uh HG) hS0 (uh HROW)
  have HSF := zh (sfail_any S d hd _ m 0 _ w3 (uh HG3) (uh HE) (uh HST3).c1 (uh HST3).c2 (uh HST3).f1 (uh HST3).f2)
  go_wp2_with fail
  refine (uh HSF).mono ?_
  rintro e w4 ⟨y,rfl,hE4,k1,k2,hx4⟩
  have hS3 : S < w3.heap.size := cell_lt (uh HST3).c0
  have HST4 : Hid (Str w4 S lim m (.slice none 0 0) []) := ⟨((uh hx4).cell 0 (by omega)).trans (uh HST3).c0,k1,k2,((uh hx4).frozen 1).trans (uh HST3).f1,((uh hx4).frozen 2).trans (uh HST3).f2,World.ownsRow_nil _ _ _ _,fun j => by simp⟩
  have HFB4 : Hid (FB S hv.ownBlock w w4) := (uh HFB3).trans (row' := none) (FB.of_bx (uh hx4)) (fun g e => by cases e)
  have HPK4 : Hid (Pks w4 w.heap.size v qs Ps) := ⟨owns_bx (uh HPK).row (uh hx4) hS,(uh HPK).len,fun i q P h1 h2 => ((uh HPK).mean i q P h1 h2).bx (uh hx4) hS,(uh HPK).dist⟩
  have HEB4 : Hid (ErB w4 w.heap.size (.iface 149 y) m) := (uh hE4).mono (uh HFB3).size
  clear k1 k2 hx4 HSF
  go_wp2
  go_returns
  show FedTo S lim hv (L ++ ys) w _ _
  rw [uh HMM]
  exact ⟨_,_,qs,Ps,n,m,_,rfl,hn,uh HSR,hm0,uh HPK4,.inr ⟨hm,⟨_,rfl⟩,uh HEB4,uh HST4⟩,.inr (fun g e => by cases e),uh HFB4⟩
end Go.Proofs.YtpoeakillimibaaGreatDoor.K
