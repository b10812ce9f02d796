/- Proved here: helpers, one text behind the other. -/
import Derived.Test.YtccnjdgaldbgnaaGreatDoorZC18
import Derived.Test.YtccnjdgaldbgnaaGreatDoorZC14
set_option maxHeartbeats 20000000
namespace Go.Proofs.YtccnjdgaldbgnaaGreatDoor
open Go.RowKit
set_option maxRecDepth 100000
def RowAt (w:World) (R:Nat) (place:Int) (f:Nat->Bool):Prop :=
 w.cell? ⟨R,0,none⟩=some (.int .i64 place)/\∀ j,j<=42->w.cell? ⟨R,1+j,none⟩=some (.bool (f j))/\w.frozen? ⟨R,1+j,none⟩=false
theorem RowAt.lt {w:World} {R:Nat} {place:Int} {f:Nat->Bool} (h:RowAt w R place f):R < w.heap.size:=cell_lt h.1
theorem RowAt.below {w w':World} {R:Nat} {place:Int} {f:Nat->Bool} (h:RowAt w R place f) (hb:Below w.heap.size w w'):RowAt w' R place f:=by
 have hl:=h.lt
 exact⟨(hb.cell (p:=⟨R,0,none⟩) hl).trans h.1,fun j hj=>⟨(hb.cell (p:=⟨R,1+j,none⟩) hl).trans (h.2 j hj).1,(hb.frozen (p:=⟨R,1+j,none⟩) hl).trans (h.2 j hj).2⟩⟩
theorem RowAt.set {w:World} {R:Nat} {place:Int} {f:Nat->Bool} (h:RowAt w R place f) (k:Nat) (hk:k<=42):RowAt (w.setCell ⟨R,1+k,none⟩ (.bool true)) R place (fun j=>f j || decide (k=j)):=by
 refine⟨?_,fun j hj=>⟨?_,?_⟩⟩
 ·rw[World.cell?_setCell_other _ _ _ _ (by intro e;simp at e)];exact h.1
 ·by_cases e:k=j
  ·subst e
   rw[World.cell?_setCell_same _ _ _ (h.2 k hj).1];simp
  ·rw[World.cell?_setCell_other _ _ _ _ (fun e'=>e (by injection e' with _ h2;omega)),(h.2 j hj).1];simp[e]
 ·rw[World.frozen?_setCell];exact (h.2 j hj).2
theorem RowAt.congr {w:World} {R:Nat} {place:Int} {f g:Nat->Bool} (h:RowAt w R place f) (e:∀ j,j<=42->f j=g j):RowAt w R place g:=⟨h.1,fun j hj=>by rw[<- e j hj];exact h.2 j hj⟩
theorem rowAt_new (w:World) (place:Int):RowAt (w.alloc (.cells (rowA place) 165)) w.heap.size place (fun _=>false):=by
 refine⟨by simp[rowA],fun j hj=>⟨?_,by simp⟩⟩
 rw[World.cell?_alloc_at _ _ _ _ rfl]
 unfold rowA
 rw[Array.getElem?_append_right (by simp)]
 rw[Array.getElem?_replicate,if_pos (show 1+j - #[Value.int IntKind.i64 place].size < 43 from by simp;omega)]
theorem owns_set {w:World} {B:Nat} {e:TypeId} {s:Nat} {v:Value} {n:Nat} {xs:List Value} (h:w.ownsRow B e s v n xs) (p:Addr) (u:Value) (hp:p.block < B):(w.setCell p u).ownsRow B e s v n xs:=by
 refine⟨h.1,?_⟩
 rcases h.2 with h1 | ⟨g,cap,cur,hv,hB,hg,rest⟩
 ·exact .inl h1
 ·exact .inr ⟨g,cap,cur,hv,hB,by rw[Below.heap_setCell w p u g (by omega)];exact hg,rest⟩
theorem row_grown {w w':World} {R:Nat} {place:Int} {f:Nat->Bool} {o:Option Nat} (h:RowAt w R place f) (hg:w.grownBy w' o) (ho:∀ g,o=some g->g≠R):RowAt w' R place f:=by
 have hb:w'.heap[R]?=w.heap[R]?:=hg.block R h.lt (fun e=>ho R e.symm rfl)
 exact⟨(World.cell?_of_block (w:=w) (a:=⟨R,0,none⟩) hb).trans h.1,fun j hj=>⟨(World.cell?_of_block (w:=w) (a:=⟨R,1+j,none⟩) hb).trans (h.2 j hj).1,(World.frozen?_of_block (w:=w) (a:=⟨R,1+j,none⟩) hb).trans (h.2 j hj).2⟩⟩
theorem take_min (l:List Pr) (k:Nat) (h:l.length=k):l.take 32=l.take (min k 32):=by
 rcases Nat.le_total k 32 with a | a
 ·rw[Nat.min_eq_left a,List.take_of_length_le (by omega),List.take_of_length_le (by omega)]
 ·rw[Nat.min_eq_right a]
def tk (place id n:Int) (s t:ByteArray) (sn:Bool):Bool:=mst id place && fit (id,n,s,t) && (rep id place || !sn)
theorem take_bad (R:Nat) (place id n:Int) (s t:ByteArray) (f:Nat->Bool) (w:World) (hR:RowAt w R place f) (h:tk place id n s t (f id.toNat)=false) :
  Calls Tryz.prog 97 #[.pointer (some ⟨R,0,none⟩),.agg #[.int .i64 id,.int .i64 n,.string s,.string t]] w (TakeNo w):=by
 unfold tk at h
 by_cases hm:mst id place=true
 ·by_cases hf:fit (id,n,s,t)=true
  ·obtain⟨h1,h2⟩:=id_range id place hm
   obtain⟨k,rfl⟩:∃ k:Nat,id=k:=⟨id.toNat,by omega⟩
   rw[hm,hf]at h
   simp only[Bool.and_true,Bool.true_and,Int.toNat_natCast,Bool.or_eq_false_iff,Bool.not_eq_false']at h
   exact take_no3 R k place n s t w (by omega) hR.1 (by rw[(hR.2 k (by omega)).1,h.2]) hm hf h.1
  ·exact take_no2 R place id n s t w hR.1 hm (by simpa using hf)
 ·exact take_no1 R place id n s t w hR.1 (by simpa using hm)
theorem take_good (R k:Nat) (place n:Int) (s t:ByteArray) (f:Nat->Bool) (w:World) (hk:k<=42) (hR:RowAt w R place f) (h:tk place k n s t (f k)=true) :
  Calls Tryz.prog 97 #[.pointer (some ⟨R,0,none⟩),.agg #[.int .i64 (k:Int),.int .i64 n,.string s,.string t]] w fun e w'=>e=.returned .nilIface/\∃ w1,Below w.heap.size w w1/\w'=w1.setCell ⟨R,1+k,none⟩ (.bool true):=by
 unfold tk at h
 rw[Bool.and_eq_true,Bool.and_eq_true]at h
 obtain⟨⟨hm,hf⟩,hr⟩:=h
 have hc:=(hR.2 k hk).1
 have hz:=(hR.2 k hk).2
 cases hs:f k
 ·rw[hs]at hc
  exact take_ok0 R k place n s t w hk hR.1 hc hz hm hf
 ·rw[hs]at hc hr
  exact take_ok1 R k place n s t w hk hR.1 hc hz hm hf (by simpa using hr)
theorem take_use (R k:Nat) (place n:Int) (s t:ByteArray) (f g:Nat->Bool) (w:World) (hk:k<=42) (hR:RowAt w R place f) (h:tk place k n s t (f k)=true) (hg:∀ j,j<=42->(f j || decide (k=j))=g j) (B:Nat) (hB:B<=R) :
  Calls Tryz.prog 97 #[.pointer (some ⟨R,0,none⟩),.agg #[.int .i64 (k:Int),.int .i64 n,.string s,.string t]] w fun e w'=>e=.returned .nilIface/\Hid (RowAt w' R place g)/\Below B w w'/\Hid (∀ (B':Nat) (v:Value) (m:Nat) (xs:List Value) (e:TypeId) (q:Nat),R < B'->w.ownsRow B' e q v m xs->w'.ownsRow B' e q v m xs)/\Hid (∀ (b i:Nat),b≠R->b < w.heap.size->w'.cell? ⟨b,i,none⟩=w.cell? ⟨b,i,none⟩):=by
 refine (take_good R k place n s t f w hk hR h).mono ?_
 rintro e w' ⟨rfl,w1,hb,rfl⟩
 have hl:=hR.lt
 refine⟨rfl,((hR.below hb).set k hk).congr hg,(hb.mono (by omega)).setCell hB _,?_,?_⟩
 ·intro B' v m xs e q hB' ho
  exact owns_set (owns_below ho hb) _ _ hB'
 ·intro b i hbR hbw
  rw[World.cell?_setCell_far _ _ _ _ (by simpa using Ne.symm hbR)]
  exact hb.cell (p:=⟨b,i,none⟩) hbw
def PrAt (w:World) (b off:Nat) (l:List Pr):Prop:=∀ k,k < l.length->w.cell? ⟨b,off+k * 4,none⟩=some (.int .i64 (at0 l k).1)/\w.cell? ⟨b,off+k * 4+1,none⟩=some (.int .i64 (at0 l k).2.1)/\w.cell? ⟨b,off+k * 4+2,none⟩=some (.string (at0 l k).2.2.1)/\w.cell? ⟨b,off+k * 4+3,none⟩=some (.string (at0 l k).2.2.2)
theorem PrAt.below {w w':World} {b off:Nat} {l:List Pr} (h:PrAt w b off l) (hb:Below w.heap.size w w'):PrAt w' b off l:=fun k hk=>by
 obtain⟨h0,h1,h2,h3⟩:=h k hk
 have hl:=cell_lt h0
 exact⟨(hb.cell (p:=⟨b,off+k * 4,none⟩) hl).trans h0,(hb.cell (p:=⟨b,off+k * 4+1,none⟩) hl).trans h1,(hb.cell (p:=⟨b,off+k * 4+2,none⟩) hl).trans h2,(hb.cell (p:=⟨b,off+k * 4+3,none⟩) hl).trans h3⟩
def Small (l:List Pr):Prop:=∀ k,k < l.length->(at0 l k).2.2.1.size<=4611686018427387904/\(at0 l k).2.2.2.size<=4611686018427387904
def TellPost (place:Int) (l:List Pr) (w:World) (e:Ending) (w':World):Prop :=
 (okTo place l l.length/\∃ v,e=.returned (.tuple #[v,.int .i64 (body l).length,.nilIface])/\Hid (Byt w' v (body (l.take 32)))/\Below w.heap.size w w') \/
 (chkP place l=1/\∃ E,e=.returned (.tuple #[.slice none 0 0,.int .i64 0,.iface 62 E])/\Hid (ErrP w' (.iface 62 E) 1)/\Below w.heap.size w w')
theorem okAt_tk (place:Int) (l:List Pr) (k:Nat):okAt place l k=(tk place (at0 l k).1 (at0 l k).2.1 (at0 l k).2.2.1 (at0 l k).2.2.2 (seen l k (at0 l k).1) && txo (at0 l k)):=by
 unfold okAt tk may
 rw[show ((at0 l k).1,(at0 l k).2.1,(at0 l k).2.2.1,(at0 l k).2.2.2)=at0 l k from rfl]
 cases mst (at0 l k).1 place <;> cases fit (at0 l k) <;> cases txo (at0 l k) <;> cases (rep (at0 l k).1 place || !seen l k (at0 l k).1) <;> rfl
theorem kd_of_mst (id place:Int) (h:mst id place=true):kd id≠0:=by
 revert h
 refine id_cases (P:=fun id=>mst id place=true->kd id≠0) id ?_ ?_ ?_ ?_ ?_ ?_ ?_ ?_ ?_ ?_ ?_ ?_ ?_ ?_ ?_ ?_ ?_ ?_ ?_ ?_ ?_ ?_ ?_ ?_ ?_ ?_ ?_ ?none
 case none =>
  intro n1 n2 n3 n8 n9 n11 n17 n18 n19 n21 n22 n23 n24 n25 n26 n28 n31 n33 n34 n35 n36 n37 n38 n39 n40 n41 n42 h
  unfold mst at h
  rw[plc_none id n1 n2 n3 n8 n9 n11 n17 n18 n19 n21 n22 n23 n24 n25 n26 n28 n31 n33 n34 n35 n36 n37 n38 n39 n40 n41 n42]at h
  simp at h
 all_goals
  intro _
  decide
theorem tk_toNat {place id n:Int} {s t:ByteArray} {b:Bool} (f:Int->Bool) (h:tk place id n s t (f id)=b):tk place id n s t (f (id.toNat:Int))=b:=by
 subst h
 by_cases hm:mst id place=true
 ·have:=id_range id place hm
  rw[show (id.toNat:Int)=id from by omega]
 ·have hm':mst id place=false:=by simpa using hm
  unfold tk
  rw[hm'];rfl
theorem tk_mst {place id n:Int} {s t:ByteArray} {sn:Bool} (h:tk place id n s t sn=true):mst id place=true/\fit (id,n,s,t)=true:=by
 unfold tk at h
 rw[Bool.and_eq_true,Bool.and_eq_true]at h
 exact h.1
theorem tell_core (b off cap:Nat) (l:List Pr) (len:Nat) (place:Int) (w:World) (hlen:l.length=len) (h200:len<=4398046511104) (hsm:Small l) (hl:PrAt w b off l) :
  Calls Tryz.prog 79 #[.slice (some ⟨b,off,none⟩) len cap,.int .i64 place] w (TellPost place l w):=by
 have HL:=zh hl
 have HLEN:=zh hlen
 have HSM:=zh hsm
 clear hl hlen hsm
 go_enter Tryz.func79,Tryz.ntmps79
 iterate 19 go_step
 refine wpList_value rfl (row_build _ _ _ _ _ _ place rfl _) ?_
 simp only[Act.put,List.setIfInBounds_toArray,List.set_cons_zero,List.set_cons_succ]
 refine wpList_value rfl (row_alloc _ _ _ _ _ _) ?_
 simp only[Act.put,List.setIfInBounds_toArray,List.set_cons_zero,List.set_cons_succ]
 refine wpList_skip rfl (row_store _ _ _ _ _ _ _ place _ rfl rfl) ?_
 simp only[Act.put]
 go_wp2
 have hR0:Hid (RowAt (w.alloc (.cells (rowA place) 165)) w.heap.size place (fun _=>false)):=rowAt_new w place
 go_loopw [4,5,16] (fun b0 sz iv wr=>∃ (bv:Value) (k S:Nat),b0=bv/\k<=len/\iv=.int .i64 k/\sz=.int .i64 S/\S<=k * 131078/\Hid (S=(body (l.take k)).length)/\Hid (okTo place l k)/\Hid (RowAt wr w.heap.size place (fun j=>seen l k j))/\Hid (wr.ownsRow (w.heap.size+1) 5 1 bv (body (l.take (min k 32))).length ((body (l.take (min k 32))).map (Value.int .u8)))/\Hid (∀ j,0<=(body (l.take (min k 32))).getD j 0/\(body (l.take (min k 32))).getD j 0<=255)/\Below w.heap.size w wr) (fun _ _ iv _=>len - (intOf iv).toNat)
 case atStart =>
  refine⟨_,0,0,rfl,Nat.zero_le _,rfl,rfl,by omega,by simp[body];trivial,okTo_zero _ _,(uh hR0).congr (fun j _=>(seen_zero _ _).symm),?_,?_,?_⟩
  ·show World.ownsRow _ _ _ _ _ _ _
   simpa [body] using World.ownsRow_nil _ _ _ _
  ·intro j;simp[body]
  ·exact bal _ _
 case round =>
  obtain⟨_,k,S,rfl,hk,rfl,rfl,hSk,HS,HOT,HROW,HOWN,HRG,hbel⟩:=hrel
  clear hR0
  have hsz:=hbel.size
  have hRl:=(uh HROW).lt
  by_cases hlt:k < len
  ·obtain⟨id,n,s,t,hp⟩:∃ id n s t,at0 l k=(id,n,s,t):=⟨_,_,_,_,rfl⟩
   obtain⟨h0,h1,h2,h3⟩:=((uh HL).below hbel) k (by rw[uh HLEN];exact hlt)
   have hsm:=(uh HSM) k (by rw[uh HLEN];exact hlt)
   have hot:=zh (okAt_tk place l k)
   rw[hp]at h0 h1 h2 h3 hsm hot
   simp only at h0 h1 h2 h3 hsm
   have HP:=zh hp
   have HBEL:=zh hbel
   have HSMK:=zh hsm
   have HLTk:Hid (k < l.length):=by show _ < _;rw[uh HLEN];exact hlt
   clear hp hbel hsm
   have hbl:=cell_lt h0
   cases htk:tk place id n s t (seen l k id)
   ·have HC:Hid (chkP place l=1):=chkP_bad place l k (uh HLTk) ((uh hot).trans (by simp only[htk,Bool.false_and]))
    have HTK:=zh (tk_toNat (seen l k) htk)
    clear htk hot
    go_wp2_with fail
    refine (take_bad w.heap.size place id n s t (fun j=>seen l k j) _ ((uh HROW).below (bal _ _)) (uh HTK)).mono ?_
    rintro e w2 ⟨E,rfl,hE,hb2⟩
    go_wp2
    go_ret3
    exact .inr ⟨uh HC,_,rfl,hE,((uh HBEL).alloc hsz _).trans (hb2.mono (by simp;omega))⟩
   ·obtain⟨hmst,hfit⟩:=tk_mst htk
    obtain⟨hi1,hi2⟩:=id_range id place hmst
    obtain⟨q,rfl⟩:∃ q:Nat,id=q:=⟨id.toNat,by omega⟩
    have hkd:=zh (kd_of_mst _ _ hmst)
    have hxt:Hid (okAt place l k=txo ((q:Int),n,s,t)):=(uh hot).trans (by rw[htk,Bool.true_and])
    have HTK:=zh htk
    have HFT:=zh hfit
    have HG:Hid (∀ j:Nat,j<=42->(seen l k (j:Int) || decide (q=j))=seen l (k+1) (j:Int)):=fun j _=>by
     rw[seen_succ l k (uh HLTk),uh HP,show decide (((q:Int),n,s,t).1=(j:Int))=decide (q=j) from by rw[decide_eq_decide];constructor <;> intro h <;> omega]
    clear htk hot hmst hfit
    go_wp2_with fail
    refine (take_use w.heap.size q place n s t (fun j=>seen l k j) (fun j=>seen l (k+1) j) _ (by omega) ((uh HROW).below (bal _ _)) (uh HTK) (uh HG) w.heap.size (Nat.le_refl _)).mono ?_
    rintro e w2 ⟨rfl,HROW2,hb2,HOWT,HCT⟩
    have d0:w2.cell? ⟨wr.heap.size,0,none⟩=some (.int .i64 (q:Int)):=((uh HCT) wr.heap.size 0 (by omega) (by simp)).trans (by simp)
    have d1:w2.cell? ⟨wr.heap.size,1,none⟩=some (.int .i64 n):=((uh HCT) wr.heap.size 1 (by omega) (by simp)).trans (by simp)
    have d2:w2.cell? ⟨wr.heap.size,2,none⟩=some (.string s):=((uh HCT) wr.heap.size 2 (by omega) (by simp)).trans (by simp)
    have d3:w2.cell? ⟨wr.heap.size,3,none⟩=some (.string t):=((uh HCT) wr.heap.size 3 (by omega) (by simp)).trans (by simp)
    have HOWN2:Hid (w2.ownsRow (w.heap.size+1) 5 1 u4 (body (l.take (min k 32))).length ((body (l.take (min k 32))).map (Value.int .u8))):=(uh HOWT) _ _ _ _ _ _ (by omega) ((uh HOWN).alloc _)
    have HB2:Hid (Below w.heap.size w w2):=((uh HBEL).alloc hsz _).trans hb2
    have hs2:=(uh HB2).size
    clear hb2 HOWT HCT HOWN HBEL HROW HG HTK h0 h1 h2 h3
    cases htx:txo ((q:Int),n,s,t)
    ·have HC:Hid (chkP place l=1):=chkP_bad place l k (uh HLTk) ((uh hxt).trans htx)
     have HTX:=zh htx
     clear htx hxt
     go_wp2_with fail
     refine (one_bad q n s t _ (by omega) (uh HSMK).1 (uh HSMK).2 (uh hkd) (uh HTX)).mono ?_
     rintro e w3 ⟨t3,x3,m3,rfl,hin3,hb3⟩
     have HB3:Hid (Below w.heap.size w w3):=(uh HB2).trans (hb3.mono hs2)
     clear hb3
     go_wp2_with fail
     refine (broken_use _ m3 _ (uh hin3)).mono ?_
     rintro e w4 ⟨E,rfl,hE,hb4⟩
     go_wp2
     go_ret3
     exact .inr ⟨uh HC,_,rfl,hE,(uh HB3).trans (hb4.mono (uh HB3).size)⟩
    ·have HOK:Hid (okAt place l k=true):=(uh hxt).trans htx
     have HM:Hid (may ((q:Int),n,s,t)=true):=by show may _=true;unfold may;rw[uh HFT,htx];rfl
     have hpl:=pb_le _ (uh HM)
     have HPB:Hid (body (l.take (k+1))=body (l.take k)++pb ((q:Int),n,s,t)):=by show _=_;rw[body_take l k (uh HLTk),uh HP]
     have HV:=zh (fun W=>one_ok q n s t W (by omega) (uh HM))
     generalize pb ((q:Int),n,s,t)=L at HV hpl HPB
     clear htx hxt HM HFT hkd HSMK
     go_wp2_with fail
     refine ((uh HV) _).mono ?_
     rintro e w3 ⟨v3,rfl,hy3,hb3⟩
     have HOWN3:Hid (w3.ownsRow (w.heap.size+1) 5 1 u4 (body (l.take (min k 32))).length ((body (l.take (min k 32))).map (Value.int .u8))):=owns_below (uh HOWN2) hb3
     have HROW3:Hid (RowAt w3 w.heap.size place (fun j=>seen l (k+1) j)):=(uh HROW2).below hb3
     have HB3:Hid (Below w.heap.size w w3):=(uh HB2).trans (hb3.mono hs2)
     have hs3:w.heap.size+1<=w3.heap.size:=by have:=(uh HROW3).lt;omega
     clear hb3 HOWN2 HROW2 HB2 d0 d1 d2 d3 HV
     obtain⟨ao,vc,rfl,hv1,hv2⟩:=(uh hy3).form
     unfold maxLen at hv2
     generalize hN:L.length=N at hpl hv1 hy3
     have HN:=zh hN
     clear hN
     have HS':Hid (S+N=(body (l.take (k+1))).length):=by show _=_;rw[uh HPB,List.length_append,uh HN,uh HS]
     by_cases h32:k < 32
     ·have hle:=body_le l place k (Nat.le_of_lt (uh HLTk)) (uh HOT)
      have HM1:Hid (min k 32=k):=Nat.min_eq_left (by omega)
      have HM2:Hid (min (k+1) 32=k+1):=Nat.min_eq_left (by omega)
      rw[uh HM1]at HOWN3 HRG
      rw[<- uh HS]at hle
      have HSL:Hid ((body (l.take k)).length=S):=(uh HS).symm
      rw[uh HSL]at HOWN3
      have HYN:Hid (Byt w3 (.slice ao N vc) L):=hy3
      go_wp2_with (first
       | (at_builtin;refine wpList_append_byt _ rfl _ _ rfl (w.heap.size+1) _ S (body (l.take k)) rfl (uh HOWN3) (.slice ao N vc) L rfl (uh HYN) (by have:=uh HN;omega) hs3 ?_)
       | go_in)
      intro v4 w4 hown4 hgrow4
      have HB4:Hid (Below w.heap.size w w4):=(uh HB3).grown hgrow4 (uh HB3).size (fun g hg=>by have:=((uh HOWN3).lt g hg).1;omega)
      have HROW4:Hid (RowAt w4 w.heap.size place (fun j=>seen l (k+1) j)):=row_grown (uh HROW3) hgrow4 (fun g hg=>by have:=((uh HOWN3).lt g hg).1;omega)
      have HOWN4:Hid (w4.ownsRow (w.heap.size+1) 5 1 v4 (body (l.take (min (k+1) 32))).length ((body (l.take (min (k+1) 32))).map (Value.int .u8))):=by
       show World.ownsRow _ _ _ _ _ _ _
       rw[uh HM2,uh HPB,List.map_append,List.length_append,uh HSL]
       exact hown4
      have HRG4:Hid (∀ j,0<=(body (l.take (min (k+1) 32))).getD j 0/\(body (l.take (min (k+1) 32))).getD j 0<=255):=by
       show ∀ j,_
       rw[uh HM2,uh HPB]
       exact range_app (uh HRG) (uh HYN).range
      clear hown4 hgrow4
      go_wp2
      go_roundw
      case rel=>exact⟨_,k+1,S+N,rfl,by omega,by go_num,by go_num,by omega,HS',okTo_succ (uh HOT) (uh HOK),HROW4,HOWN4,HRG4,uh HB4⟩
      case measure=>simp[intOf];omega
     ·have HM1:Hid (min k 32=min (k+1) 32):=by show _=_;omega
      rw[uh HM1]at HOWN3 HRG
      go_wp2
      go_roundw
      case rel=>exact⟨_,k+1,S+N,rfl,by omega,by go_num,by go_num,by omega,HS',okTo_succ (uh HOT) (uh HOK),HROW3,HOWN3,HRG,uh HB3⟩
      case measure=>simp[intOf];omega
  ·obtain rfl:k=len:=by omega
   have HY:Hid (Byt wr u4 (body (l.take 32))):=by
    show Byt _ _ _
    rw[take_min l k (uh HLEN)]
    exact byt_of_owns (uh HOWN) (uh HRG)
   have HS':Hid ((S:Int)=((body l).length:Int)):=by
    show _=_
    rw[uh HS,List.take_of_length_le (Nat.le_of_eq (uh HLEN))]
   go_wp2
   go_ret3
   exact .inl ⟨by rw[uh HLEN];exact uh HOT,_,by rw[<- uh HS'];rfl,HY,hbel⟩
def gval (k:Int) (l:List Int):Bool×Int×ByteArray×ByteArray×Nat :=
 if k=1\/k=2\/k=4 then (decide (k<=l.length),be k l,es,es,k.toNat)
 else if k=5 then (decide ((V.vget l).2.2=0),(V.vget l).1,es,es,(V.vget l).2.1.toNat)
 else if k=6 then (decide ((gt l).2.2=0),0,(gt l).1,es,(gt l).2.1.toNat)
 else if k=7 then (decide ((gbn l).2.2=0),0,(gbn l).1,es,(gbn l).2.1.toNat)
 else if k=8 then (decide ((gt l).2.2=0) && decide ((gt (l.drop (gt l).2.1.toNat)).2.2=0),0,(gt l).1,(gt (l.drop (gt l).2.1.toNat)).1,(gt l).2.1.toNat+(gt (l.drop (gt l).2.1.toNat)).2.1.toNat)
 else (false,0,es,es,0)
def gid (l:List Int):Int:=(V.vget l).1
def ghd (l:List Int):Nat:=(V.vget l).2.1.toNat
def grs (l:List Int):Bool×Int×ByteArray×ByteArray×Nat:=gval (kd (gid l)) (l.drop (ghd l))
def gok (l:List Int):Bool:=decide ((V.vget l).2.2=0) && (grs l).1
def gpr (l:List Int):Pr:=(gid l,(grs l).2.1,(grs l).2.2.1,(grs l).2.2.2.1)
def gsz (l:List Int):Nat:=ghd l+(grs l).2.2.2.2
def parse (l:List Int):Option (List Pr) :=
 if _h:l=[] then some [] else if gok l=true then (parse (l.drop (max 1 (gsz l)))).map (gpr l :: ·) else none
termination_by l.length
decreasing_by
 rw[List.length_drop]
 have:=List.length_pos_iff.2 _h
 omega
def Rng (l:List Int):Prop:=∀ j,0<=l.getD j 0/\l.getD j 0<=255
theorem Rng.drop {l:List Int} (h:Rng l) (k:Nat):Rng (l.drop k):=fun j=>by
 rw[List.getD_eq_getElem?_getD,List.getElem?_drop,<- List.getD_eq_getElem?_getD];exact h _
theorem vget_is (l:List Int) (hr:Rng l) (h:(V.vget l).2.2=0):V.vget l=(gid l,(ghd l:Int),0)/\1<=ghd l/\ghd l<=l.length/\0<=gid l/\gid l<=268435455/\V.put (gid l)=l.take (ghd l):=by
 obtain⟨n,k,e,he⟩:∃ n k e,V.vget l=(n,k,e):=⟨_,_,_,rfl⟩
 rw[he]at h
 simp only at h
 subst h
 obtain⟨h0,h1,K,rfl,h2,h3,h4⟩:=V.vget_ok l hr n k he
 have e1:gid l=n:=by unfold gid;rw[he]
 have e2:ghd l=K:=by unfold ghd;rw[he];simp
 rw[e1,e2]
 exact⟨he,h2,h3,h0,h1,h4⟩
theorem gt_is (l:List Int) (h:(gt l).2.2=0):gt l=((gt l).1,(((gt l).2.1.toNat:Nat):Int),0)/\2<=(gt l).2.1.toNat/\(gt l).2.1.toNat<=l.length/\utf (sb (gt l).1)=true/\(gt l).1=gbs l:=by
 rcases gt_cases l with⟨s,K,hf,hu,rfl,rfl,hg⟩ | ⟨m,hm,hg⟩
 ·rw[hg]
  unfold full at hf
  rw[Bool.and_eq_true,decide_eq_true_eq,decide_eq_true_eq]at hf
  refine⟨by rw[Int.toNat_natCast],?_,?_,hu,rfl⟩
  ·show 2<=((2+nb l:Nat):Int).toNat
   omega
  ·show ((2+nb l:Nat):Int).toNat<=_
   omega
 ·rw[hg]at h
  exact absurd h hm
theorem gbn_is (l:List Int) (h:(gbn l).2.2=0):gbn l=((gbn l).1,(((gbn l).2.1.toNat:Nat):Int),0)/\2<=(gbn l).2.1.toNat/\(gbn l).2.1.toNat<=l.length/\(gbn l).1=gbs l:=by
 unfold gbn at *
 by_cases hf:full l=true
 ·rw[if_pos hf]at h |-
  unfold full at hf
  rw[Bool.and_eq_true,decide_eq_true_eq,decide_eq_true_eq]at hf
  refine⟨by rw[Int.toNat_natCast],?_,?_,rfl⟩
  ·show 2<=((2+nb l:Nat):Int).toNat
   omega
  ·show ((2+nb l:Nat):Int).toNat<=_
   omega
 ·rw[if_neg hf]at h
  simp at h
theorem gval_le (k:Int) (l:List Int) (hr:Rng l) (h:(gval k l).1=true):(gval k l).2.2.2.2<=l.length:=by
 unfold gval at h |-
 by_cases k1:k=1\/k=2\/k=4
 ·rw[if_pos k1]at h |-
  simp only[decide_eq_true_eq]at h |-
  omega
 rw[if_neg k1]at h |-
 by_cases k5:k=5
 ·rw[if_pos k5]at h |-
  simp only[decide_eq_true_eq]at h |-
  exact (vget_is l hr h).2.2.1
 rw[if_neg k5]at h |-
 by_cases k6:k=6
 ·rw[if_pos k6]at h |-
  simp only[decide_eq_true_eq]at h |-
  exact (gt_is l h).2.2.1
 rw[if_neg k6]at h |-
 by_cases k7:k=7
 ·rw[if_pos k7]at h |-
  simp only[decide_eq_true_eq]at h |-
  exact (gbn_is l h).2.2.1
 rw[if_neg k7]at h |-
 by_cases k8:k=8
 ·rw[if_pos k8]at h |-
  simp only[Bool.and_eq_true,decide_eq_true_eq]at h |-
  have a:=(gt_is l h.1).2.2.1
  have b:=(gt_is _ h.2).2.2.1
  rw[List.length_drop]at b
  omega
 rw[if_neg k8]at h
 simp at h
theorem gok_le (l:List Int) (hr:Rng l) (h:gok l=true):1<=gsz l/\gsz l<=l.length/\0<=gid l/\gid l<=268435455:=by
 unfold gok at h
 rw[Bool.and_eq_true,decide_eq_true_eq]at h
 obtain⟨_,a,b,c,d,_⟩:=vget_is l hr h.1
 have e:=gval_le _ _ (hr.drop (ghd l)) h.2
 rw[List.length_drop]at e
 unfold gsz grs
 omega
theorem parse_nil:parse []=some []:=by rw[parse,dif_pos rfl]
theorem parse_no (l:List Int) (h:l≠[]) (hg:gok l=false):parse l=none:=by rw[parse,dif_neg h,if_neg (by rw[hg];decide)]
theorem parse_yes (l:List Int) (h:l≠[]) (hr:Rng l) (hg:gok l=true):parse l=(parse (l.drop (gsz l))).map (gpr l :: ·):=by
 rw[parse,dif_neg h,if_pos hg,Nat.max_eq_right (gok_le l hr hg).1]
theorem getOne_good (v:Value) (l:List Int) (w:World) (h:Byt w v l) (hg:gok l=true):Calls Tryz.prog 125 #[v] w (GoOk (gpr l) (gsz l) w):=by
 have hr:=h.range
 have hle:=gok_le l hr hg
 unfold gok at hg
 rw[Bool.and_eq_true,decide_eq_true_eq]at hg
 obtain⟨hv,a,b,c,d,_⟩:=vget_is l hr hg.1
 have hg2:=hg.2
 have hl:=gval_le _ _ (Rng.drop hr (ghd l)) hg2
 rw[List.length_drop]at hl
 unfold gpr gsz
 refine gone_ok v l w h (gid l) (ghd l) hv ⟨a,b⟩ (frm (gid l)) (wid (gid l)) (lst (gid l)) (mx (gid l)) rfl _ _ _ _ (by unfold grs;omega) ?_
 intro vb W hb
 have hfrm:frm (gid l)=(if kd (gid l)=1\/kd (gid l)=2\/kd (gid l)=4 then 1 else if kd (gid l)=5 then 2 else if kd (gid l)=6 then 3 else if kd (gid l)=7 then 4 else if kd (gid l)=8 then 5 else 0):=rfl
 have hwid:wid (gid l)=(if kd (gid l)=1\/kd (gid l)=2\/kd (gid l)=4 then kd (gid l) else 0):=rfl
 have hr':=Rng.drop hr (ghd l)
 unfold grs at hg2 |-
 generalize kd (gid l)=k at hg2 hfrm hwid |-
 generalize l.drop (ghd l)=m at hg2 hb hr' |-
 rw[hfrm,hwid]
 clear hfrm hwid
 unfold gval at hg2 |-
 by_cases k1:k=1\/k=2\/k=4
 ·rw[if_pos k1]at hg2 |-
  rw[if_pos k1,if_pos k1]
  simp only[decide_eq_true_eq]at hg2 |-
  have:=gval_num vb m W hb k (lst (gid l)) (mx (gid l)) k1 hg2
  rw[show ((k.toNat:Nat):Int)=k from by omega]
  exact this
 rw[if_neg k1]at hg2 |-
 rw[if_neg k1,if_neg k1]
 by_cases k5:k=5
 ·rw[if_pos k5]at hg2 |-
  rw[if_pos k5]
  simp only[decide_eq_true_eq]at hg2 |-
  obtain⟨hv',_⟩:=vget_is m hr' hg2
  exact gval_var vb m W hb _ _ _ _ _ hv'
 rw[if_neg k5]at hg2 |-
 rw[if_neg k5]
 by_cases k6:k=6
 ·rw[if_pos k6]at hg2 |-
  rw[if_pos k6]
  simp only[decide_eq_true_eq]at hg2 |-
  exact gval_text vb m W hb _ _ _ _ _ (gt_is m hg2).1
 rw[if_neg k6]at hg2 |-
 rw[if_neg k6]
 by_cases k7:k=7
 ·rw[if_pos k7]at hg2 |-
  rw[if_pos k7]
  simp only[decide_eq_true_eq]at hg2 |-
  exact gval_bin vb m W hb _ _ _ _ _ (gbn_is m hg2).1
 rw[if_neg k7]at hg2 |-
 rw[if_neg k7]
 by_cases k8:k=8
 ·rw[if_pos k8]at hg2 |-
  rw[if_pos k8]
  simp only[Bool.and_eq_true,decide_eq_true_eq]at hg2 |-
  obtain⟨e1,e2,e3,_⟩:=gt_is m hg2.1
  obtain⟨f1,f2,f3,_⟩:=gt_is _ hg2.2
  rw[List.length_drop]at f3
  exact gval_pair vb m W hb _ _ _ _ _ _ _ e1 f1 ⟨e2,e3⟩ (by omega)
 rw[if_neg k8]at hg2
 simp at hg2
theorem getOne_fail (v:Value) (l:List Int) (w:World) (h:Byt w v l) (hg:gok l=false):Calls Tryz.prog 125 #[v] w (GvBad w):=by
 have hr:=h.range
 by_cases hv0:(V.vget l).2.2=0
 ·obtain⟨hv,a,b,c,d,_⟩:=vget_is l hr hv0
  have hg2:(grs l).1=false:=by
   unfold gok at hg
   rw[hv0]at hg
   simpa using hg
  refine gone_bad2 v l w h (gid l) (ghd l) hv ⟨a,b⟩ (frm (gid l)) (wid (gid l)) (lst (gid l)) (mx (gid l)) rfl ?_
  intro vb W hb
  have hfrm:frm (gid l)=(if kd (gid l)=1\/kd (gid l)=2\/kd (gid l)=4 then 1 else if kd (gid l)=5 then 2 else if kd (gid l)=6 then 3 else if kd (gid l)=7 then 4 else if kd (gid l)=8 then 5 else 0):=rfl
  have hwid:wid (gid l)=(if kd (gid l)=1\/kd (gid l)=2\/kd (gid l)=4 then kd (gid l) else 0):=rfl
  unfold grs at hg2
  generalize kd (gid l)=k at hg2 hfrm hwid |-
  generalize l.drop (ghd l)=m at hg2 hb
  rw[hfrm,hwid]
  clear hfrm hwid
  unfold gval at hg2
  by_cases k1:k=1\/k=2\/k=4
  ·rw[if_pos k1]at hg2
   rw[if_pos k1,if_pos k1]
   simp only[decide_eq_false_iff_not]at hg2
   exact gval_num_bad vb m W hb k _ _ (by omega)
  rw[if_neg k1]at hg2
  rw[if_neg k1,if_neg k1]
  by_cases k5:k=5
  ·rw[if_pos k5]at hg2
   rw[if_pos k5]
   simp only[decide_eq_false_iff_not]at hg2
   exact gval_var_bad vb m W hb _ _ _ _ rfl hg2
  rw[if_neg k5]at hg2
  rw[if_neg k5]
  by_cases k6:k=6
  ·rw[if_pos k6]at hg2
   rw[if_pos k6]
   simp only[decide_eq_false_iff_not]at hg2
   exact gval_text_bad vb m W hb _ _ _ _ rfl hg2
  rw[if_neg k6]at hg2
  rw[if_neg k6]
  by_cases k7:k=7
  ·rw[if_pos k7]at hg2
   rw[if_pos k7]
   simp only[decide_eq_false_iff_not]at hg2
   exact gval_bin_bad vb m W hb _ _ _ _ rfl hg2
  rw[if_neg k7]at hg2
  rw[if_neg k7]
  by_cases k8:k=8
  ·rw[if_pos k8]at hg2
   rw[if_pos k8]
   by_cases h1:(gt m).2.2=0
   ·obtain⟨e1,e2,e3,_⟩:=gt_is m h1
    have h2:¬ (gt (m.drop (gt m).2.1.toNat)).2.2=0:=by
     rw[h1]at hg2
     simpa using hg2
    exact gval_pair_bad vb m W hb _ _ _ (fun W' hb'=>gpair_bad2 vb m W' hb' _ _ e1 ⟨e2,e3⟩ _ rfl h2)
   ·exact gval_pair_bad vb m W hb _ _ _ (fun W' hb'=>gpair_bad1 vb m W' hb' _ rfl h1)
  rw[if_neg k8]
  exact gval_none vb m W hb _ _ _
 ·exact gone_bad1 v l w h _ rfl hv0
theorem gpr_txo (l:List Int) (hr:Rng l) (h:gok l=true):txo (gpr l)=true/\(gpr l).2.2.1.size<=65535/\(gpr l).2.2.2.size<=65535:=by
 unfold gok at h
 rw[Bool.and_eq_true,decide_eq_true_eq]at h
 have hg2:=h.2
 have hr':=hr.drop (ghd l)
 unfold gpr txo
 simp only
 unfold grs at hg2 |-
 generalize kd (gid l)=k at hg2 |-
 generalize l.drop (ghd l)=m at hg2 hr' |-
 have hes:es.size<=65535:=by decide
 have key:∀ s:ByteArray,utf (sb s)=true->s.size<=65535->chk (sb s)=0:=fun s a b=>by
  unfold chk
  rw[if_pos a,if_pos (by rw[sb_length];exact b)]
 unfold gval at hg2 |-
 by_cases k1:k=1\/k=2\/k=4
 ·rw[if_pos k1]
  rw[if_neg (by omega),if_neg (by omega),if_neg (by omega)]
  exact⟨by simp;omega,hes,hes⟩
 rw[if_neg k1]at hg2 |-
 by_cases k5:k=5
 ·rw[if_pos k5]
  rw[if_neg (by omega),if_neg (by omega),if_neg (by omega)]
  exact⟨by simp;omega,hes,hes⟩
 rw[if_neg k5]at hg2 |-
 by_cases k6:k=6
 ·rw[if_pos k6]at hg2 |-
  simp only[decide_eq_true_eq]at hg2 |-
  rw[if_pos k6]
  obtain⟨_,_,_,hu,hs⟩:=gt_is m hg2
  have hz:(gt m).1.size<=65535:=by rw[hs];exact gbs_size m hr'
  exact⟨key _ hu hz,hz,hes⟩
 rw[if_neg k6]at hg2 |-
 by_cases k7:k=7
 ·rw[if_pos k7]at hg2 |-
  simp only[decide_eq_true_eq]at hg2 |-
  rw[if_neg k6,if_pos k7]
  obtain⟨_,_,_,hs⟩:=gbn_is m hg2
  have hz:(gbn m).1.size<=65535:=by rw[hs];exact gbs_size m hr'
  exact⟨hz,hz,hes⟩
 rw[if_neg k7]at hg2 |-
 by_cases k8:k=8
 ·rw[if_pos k8]at hg2 |-
  simp only[Bool.and_eq_true,decide_eq_true_eq]at hg2 |-
  rw[if_neg k6,if_neg k7,if_pos k8]
  obtain⟨_,_,_,hu,hs⟩:=gt_is m hg2.1
  obtain⟨_,_,_,hu2,hs2⟩:=gt_is _ hg2.2
  have hz:(gt m).1.size<=65535:=by rw[hs];exact gbs_size m hr'
  have hz2:(gt (m.drop (gt m).2.1.toNat)).1.size<=65535:=by rw[hs2];exact gbs_size _ (hr'.drop _)
  exact⟨⟨key _ hu hz,key _ hu2 hz2⟩,hz,hz2⟩
 rw[if_neg k8]at hg2
 simp at hg2
theorem at0_app (d e:List Pr) (i:Nat) (h:i < d.length):at0 (d++e) i=at0 d i:=by
 unfold at0
 rw[List.getD_eq_getElem?_getD,List.getElem?_append_left h,<- List.getD_eq_getElem?_getD]
theorem at0_mid (d e:List Pr) (p:Pr):at0 (d++p :: e) d.length=p:=by
 unfold at0
 simp
def sn (d:List Pr) (id:Int):Bool:=d.any fun q=>decide (q.1=id)
theorem seen_app (d e:List Pr) (i:Nat) (h:i<=d.length) (id:Int):seen (d++e) i id=seen d i id:=by
 unfold seen
 rw[List.take_append_of_le_length h]
theorem okAt_app (place:Int) (d e:List Pr) (i:Nat) (h:i < d.length):okAt place (d++e) i=okAt place d i:=by
 unfold okAt
 rw[at0_app d e i h,seen_app d e i (by omega)]
theorem okAt_mid (place:Int) (d e:List Pr) (p:Pr):okAt place (d++p :: e) d.length=(tk place p.1 p.2.1 p.2.2.1 p.2.2.2 (sn d p.1) && txo p):=by
 rw[okAt_tk,at0_mid,seen_app d _ _ (Nat.le_refl _)]
 unfold seen sn
 rw[List.take_length]
theorem sn_snoc (d:List Pr) (p:Pr) (id:Int):sn (d++[p]) id=(sn d id || decide (p.1=id)):=by
 unfold sn
 rw[List.any_append];simp
def rdn (place:Int) (l:List Int):Int:=match parse l with
 | none=>1
 | some q=>chkP place q
theorem rdn_none (place:Int) (l:List Int) (h:parse l=none):rdn place l=1:=by unfold rdn;rw[h]
theorem rdn_some (place:Int) (l:List Int) (q:List Pr) (h:parse l=some q):rdn place l=chkP place q:=by unfold rdn;rw[h]
theorem rdn_bad (place:Int) (l r:List Int) (d:List Pr) (p:Pr) (h:parse l=(parse r).map ((d++[p])++·)) (hp:okAt place (d++[p]) d.length=false):rdn place l=1:=by
 cases hr:parse r with
 | none=>rw[hr]at h;exact rdn_none place l h
 | some q =>
  rw[hr]at h
  rw[rdn_some place l _ h]
  refine chkP_bad place _ d.length (by simp) ?_
  rw[okAt_app place (d++[p]) q d.length (by simp)]
  exact hp
end Go.Proofs.YtccnjdgaldbgnaaGreatDoor
