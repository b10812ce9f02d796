/- Proved here: helpers, one text behind the other. -/
import Derived.Test.YtpheelbbpiieiaaGreatDoorZC13
import Derived.Test.YtpheelbbpiieiaaGreatDoorZC12
import Derived.Test.YtpheelbbpiieiaaGreatDoorZC15
import Derived.Laws.StructEq
set_option maxHeartbeats 20000000
namespace Go.Proofs.YtpheelbbpiieiaaGreatDoor
open Go.RowKit
set_option maxRecDepth 100000
theorem lst_pos (id:Int):0<=lst id:=by unfold lst;split <;> omega
theorem fit_num {id n:Int} {s t:ByteArray} (h:fit (id,n,s,t)=true):0<=n/\lst id<=n/\n<=mx id:=by
 unfold fit at h
 rw[Bool.and_eq_true,Bool.and_eq_true,decide_eq_true_eq,decide_eq_true_eq]at h
 have:=lst_pos id
 have h1:=h.1
 simp only at h1
 omega
theorem shv_of (id k f wd m:Int) (hk:kd id=k) (hf:(if k=1\/k=2\/k=4 then 1 else if k=5 then 2 else if k=6 then 3 else if k=7 then 4 else if k=8 then 5 else 0)=f) (hw:(if k=1\/k=2\/k=4 then k else 0)=wd) (hm:mx id=m):shv id=.agg #[.int .i64 f,.int .i64 wd,.int .i64 (lst id),.int .i64 m]:=by
 unfold shv frm wid
 rw[hk,hf,hw,hm]
theorem pvb_num (id n:Int) (s t:ByteArray) (k:Int) (hk:kd id=k) (h:k=1\/k=2\/k=4):pvb (id,n,s,t)=nbs k n:=by
 unfold pvb nbs
 rcases h with rfl | rfl | rfl <;> simp[hk]
theorem value_ok (id n:Int) (s t:ByteArray) (w:World) (hm:may (id,n,s,t)=true):Calls Tryz.prog 172 #[.agg #[.int .i64 id,.int .i64 n,.string s,.string t]] w (ValOk (pvb (id,n,s,t)) w):=by
 unfold may at hm
 rw[Bool.and_eq_true]at hm
 obtain⟨hf,ht⟩:=hm
 obtain⟨h0,h1,h2⟩:=fit_num hf
 have hx:mx id=(if kd id=1 then 1 else if kd id=2 then 65535 else if kd id=4 then 4294967295 else if kd id=5 then 268435455 else 0):=rfl
 rcases kd_cases id with h | h | h | h | h | h | h | h
 ·unfold txo at ht;simp[h]at ht
 ·rw[pvb_num id n s t 1 h (by omega)]
  rw[if_pos h]at hx
  exact value_num id n 1 s t w _ _ (shv_of id 1 1 1 1 h rfl rfl hx) (.inl ⟨rfl,by omega⟩) h0
 ·rw[pvb_num id n s t 2 h (by omega)]
  rw[if_neg (by omega),if_pos h]at hx
  exact value_num id n 2 s t w _ _ (shv_of id 2 1 2 65535 h rfl rfl hx) (.inr (.inl ⟨rfl,by omega⟩)) h0
 ·rw[pvb_num id n s t 4 h (by omega)]
  rw[if_neg (by omega),if_neg (by omega),if_pos h]at hx
  exact value_num id n 4 s t w _ _ (shv_of id 4 1 4 4294967295 h rfl rfl hx) (.inr (.inr ⟨rfl,by omega⟩)) h0
 ·rw[show pvb (id,n,s,t)=V.put n from by unfold pvb;simp[h]]
  rw[if_neg (by omega),if_neg (by omega),if_neg (by omega),if_pos h]at hx
  exact value_var id n s t w _ _ _ (shv_of id 5 2 0 _ h rfl rfl hx) h0 (by omega)
 ·rw[show pvb (id,n,s,t)=tx s from by unfold pvb;simp[h]]
  rw[if_neg (by omega),if_neg (by omega),if_neg (by omega),if_neg (by omega)]at hx
  exact value_text id n s t w _ _ _ (shv_of id 6 3 0 _ h rfl rfl hx) (by unfold txo at ht;simpa [h] using ht)
 ·rw[show pvb (id,n,s,t)=tx s from by unfold pvb;simp[h]]
  rw[if_neg (by omega),if_neg (by omega),if_neg (by omega),if_neg (by omega)]at hx
  exact value_bin id n s t w _ _ _ (shv_of id 7 4 0 _ h rfl rfl hx) (by unfold txo at ht;simpa [h] using ht)
 ·rw[show pvb (id,n,s,t)=tx s++tx t from by unfold pvb;simp[h]]
  rw[if_neg (by omega),if_neg (by omega),if_neg (by omega),if_neg (by omega)]at hx
  have hc:chk (sb s)=0/\chk (sb t)=0:=by unfold txo at ht;simpa [h] using ht
  exact value_pair id n s t w _ _ _ (shv_of id 8 5 0 _ h rfl rfl hx) hc.1 hc.2
theorem value_bad (id n:Int) (s t:ByteArray) (w:World) (hls:s.size<=4611686018427387904) (hlt:t.size<=4611686018427387904) (hk:kd id≠0) (ht:txo (id,n,s,t)=false):Calls Tryz.prog 172 #[.agg #[.int .i64 id,.int .i64 n,.string s,.string t]] w (ValBad w):=by
 have hx:mx id=(if kd id=1 then 1 else if kd id=2 then 65535 else if kd id=4 then 4294967295 else if kd id=5 then 268435455 else 0):=rfl
 rcases kd_cases id with h | h | h | h | h | h | h | h
 ·exact absurd h hk
 ·unfold txo at ht;simp[h]at ht
 ·unfold txo at ht;simp[h]at ht
 ·unfold txo at ht;simp[h]at ht
 ·unfold txo at ht;simp[h]at ht
 ·rw[if_neg (by omega),if_neg (by omega),if_neg (by omega),if_neg (by omega)]at hx
  exact value_text_bad id n s t w _ _ _ (shv_of id 6 3 0 _ h rfl rfl hx) hls (by unfold txo at ht;simpa [h] using ht)
 ·rw[if_neg (by omega),if_neg (by omega),if_neg (by omega),if_neg (by omega)]at hx
  exact value_bin_bad id n s t w _ _ _ (shv_of id 7 4 0 _ h rfl rfl hx) (by unfold txo at ht;simpa [h] using ht)
 ·rw[if_neg (by omega),if_neg (by omega),if_neg (by omega),if_neg (by omega)]at hx
  have hc:chk (sb s)=0->¬ chk (sb t)=0:=by unfold txo at ht;simpa [h] using ht
  by_cases hs:chk (sb s)=0
  ·exact value_pair_bad2 id n s t w _ _ _ (shv_of id 8 5 0 _ h rfl rfl hx) hlt hs (hc hs)
  ·exact value_pair_bad1 id n s t w _ _ _ (shv_of id 8 5 0 _ h rfl rfl hx) hls hs
theorem one_ok (id n:Int) (s t:ByteArray) (w:World) (hi:1<=id/\id<=42) (hm:may (id,n,s,t)=true):Calls Tryz.prog 165 #[.agg #[.int .i64 id,.int .i64 n,.string s,.string t]] w (ValOk (pb (id,n,s,t)) w):=by
 have hle:=pvb_le _ hm
 have HM:=zh hm
 have HV:=zh (fun W=>value_ok id n s t W hm)
 have HL:=zh (V.put_len id)
 have HP:Hid (pb (id,n,s,t)=V.put id++pvb (id,n,s,t)):=rfl
 generalize pb (id,n,s,t)=l at HP |-
 generalize pvb (id,n,s,t)=l2 at HP HV hle
 clear hm HM
 go_enter Tryz.func165,Tryz.ntmps165
 go_wp2_with fail
 refine (vput_use id _ (by omega) (by omega)).mono ?_
 rintro e w1 ⟨v1,rfl,hown1,hy1,hb1⟩
 have HR:=zh (uh hy1).range
 have HB1:=bal1 hb1
 have c0:w1.cell? ⟨w.heap.size,0,none⟩=some (.int .i64 id):=(hb1.cell (p:=⟨w.heap.size,0,none⟩) (by simp)).trans (by simp)
 have c1:w1.cell? ⟨w.heap.size,1,none⟩=some (.int .i64 n):=(hb1.cell (p:=⟨w.heap.size,1,none⟩) (by simp)).trans (by simp)
 have c2:w1.cell? ⟨w.heap.size,2,none⟩=some (.string s):=(hb1.cell (p:=⟨w.heap.size,2,none⟩) (by simp)).trans (by simp)
 have c3:w1.cell? ⟨w.heap.size,3,none⟩=some (.string t):=(hb1.cell (p:=⟨w.heap.size,3,none⟩) (by simp)).trans (by simp)
 have HO1:Hid (w1.ownsRow w.heap.size 5 1 v1 (V.put id).length ((V.put id).map (Value.int .u8))):=owns_mono (uh hown1) (by simp)
 clear hb1 hown1 hy1
 go_wp2_with fail
 refine ((uh HV) _).mono ?_
 rintro e w2 ⟨v2,rfl,hy2,hb2⟩
 have HO2:Hid (w2.ownsRow w.heap.size 5 1 v1 (V.put id).length ((V.put id).map (Value.int .u8))):=owns_below (uh HO1) hb2
 have HB2:Hid (Below w.heap.size w w2):=(uh HB1).trans (hb2.mono (uh HB1).size)
 clear hb2 HB1 HO1 c0 c1 c2 c3
 go_wp2_with (first
  | (at_builtin;refine wpList_append_byt _ rfl _ _ rfl w.heap.size _ (V.put id).length (V.put id) rfl (uh HO2) v2 l2 rfl (uh hy2) (by have:=uh HL;omega) (uh HB2).size ?_)
  | go_in)
 intro v3 w3 hown3 hgrow3
 have hb3:Below w.heap.size w w3:=(uh HB2).grown hgrow3 (uh HB2).size (fun k hk=>((uh HO2).lt k hk).1)
 have HY3:Hid (Byt w3 v3 l):=by
  show Byt _ _ _
  rw[uh HP]
  exact byt_of_owns (by rw[List.map_append];exact hown3) (range_app (uh HR) (uh hy2).range)
 clear hown3 hgrow3
 go_wp2
 go_ret2
 exact⟨_,rfl,HY3,hb3⟩
theorem one_bad (id n:Int) (s t:ByteArray) (w:World) (hi:1<=id/\id<=42) (hls:s.size<=4611686018427387904) (hlt:t.size<=4611686018427387904) (hk:kd id≠0) (ht:txo (id,n,s,t)=false):Calls Tryz.prog 165 #[.agg #[.int .i64 id,.int .i64 n,.string s,.string t]] w (ValBad w):=by
 have HV:=zh (fun W=>value_bad id n s t W hls hlt hk ht)
 clear hls hlt hk ht
 go_enter Tryz.func165,Tryz.ntmps165
 go_wp2_with fail
 refine (vput_use id _ (by omega) (by omega)).mono ?_
 rintro e w1 ⟨v1,rfl,-,-,hb1⟩
 have HB1:=bal1 hb1
 have c0:w1.cell? ⟨w.heap.size,0,none⟩=some (.int .i64 id):=(hb1.cell (p:=⟨w.heap.size,0,none⟩) (by simp)).trans (by simp)
 have c1:w1.cell? ⟨w.heap.size,1,none⟩=some (.int .i64 n):=(hb1.cell (p:=⟨w.heap.size,1,none⟩) (by simp)).trans (by simp)
 have c2:w1.cell? ⟨w.heap.size,2,none⟩=some (.string s):=(hb1.cell (p:=⟨w.heap.size,2,none⟩) (by simp)).trans (by simp)
 have c3:w1.cell? ⟨w.heap.size,3,none⟩=some (.string t):=(hb1.cell (p:=⟨w.heap.size,3,none⟩) (by simp)).trans (by simp)
 clear hb1
 go_wp2_with fail
 refine ((uh HV) _).mono ?_
 rintro e w2 ⟨t2,x2,m,rfl,hi2,hb2⟩
 go_wp2
 go_ret2
 exact⟨_,_,_,rfl,hi2,(uh HB1).trans (hb2.mono (uh HB1).size)⟩
def RowAt (w:World) (R:Nat) (place:Int) (f:Nat->Bool):Prop :=
 w.cell? ⟨R,0,none⟩=some (.int .i64 place)/\∀ j,j<=42->w.cell? ⟨R,1+j,none⟩=some (.bool (f j))/\w.frozen? ⟨R,1+j,none⟩=false
theorem RowAt.lt {w:World} {R:Nat} {place:Int} {f:Nat->Bool} (h:RowAt w R place f):R < w.heap.size:=cell_lt h.1
theorem RowAt.below {w w':World} {R:Nat} {place:Int} {f:Nat->Bool} (h:RowAt w R place f) (hb:Below w.heap.size w w'):RowAt w' R place f:=by
 have hl:=h.lt
 exact⟨(hb.cell (p:=⟨R,0,none⟩) hl).trans h.1,fun j hj=>⟨(hb.cell (p:=⟨R,1+j,none⟩) hl).trans (h.2 j hj).1,(hb.frozen (p:=⟨R,1+j,none⟩) hl).trans (h.2 j hj).2⟩⟩
theorem RowAt.set {w:World} {R:Nat} {place:Int} {f:Nat->Bool} (h:RowAt w R place f) (k:Nat) (hk:k<=42):RowAt (w.setCell ⟨R,1+k,none⟩ (.bool true)) R place (fun j=>f j || decide (k=j)):=by
 refine⟨?_,fun j hj=>⟨?_,?_⟩⟩
 ·rw[World.cell?_setCell_other _ _ _ _ (by intro e;simp at e)];exact h.1
 ·by_cases e:k=j
  ·subst e
   rw[World.cell?_setCell_same _ _ _ (h.2 k hj).1];simp
  ·rw[World.cell?_setCell_other _ _ _ _ (fun e'=>e (by injection e' with _ h2;omega)),(h.2 j hj).1];simp[e]
 ·rw[World.frozen?_setCell];exact (h.2 j hj).2
theorem RowAt.congr {w:World} {R:Nat} {place:Int} {f g:Nat->Bool} (h:RowAt w R place f) (e:∀ j,j<=42->f j=g j):RowAt w R place g:=⟨h.1,fun j hj=>by rw[<- e j hj];exact h.2 j hj⟩
theorem rowAt_new (w:World) (place:Int):RowAt (w.alloc (.cells (rowA place) 204)) w.heap.size place (fun _=>false):=by
 refine⟨by simp[rowA],fun j hj=>⟨?_,by simp⟩⟩
 rw[World.cell?_alloc_at _ _ _ _ rfl]
 unfold rowA
 rw[Array.getElem?_append_right (by simp)]
 rw[Array.getElem?_replicate,if_pos (show 1+j - #[Value.int IntKind.i64 place].size < 43 from by simp;omega)]
theorem owns_set {w:World} {B:Nat} {e:TypeId} {s:Nat} {v:Value} {n:Nat} {xs:List Value} (h:w.ownsRow B e s v n xs) (p:Addr) (u:Value) (hp:p.block < B):(w.setCell p u).ownsRow B e s v n xs:=by
 refine⟨h.1,?_⟩
 rcases h.2 with h1 | ⟨g,cap,cur,hv,hB,hg,rest⟩
 ·exact .inl h1
 ·exact .inr ⟨g,cap,cur,hv,hB,by rw[Below.heap_setCell w p u g (by omega)];exact hg,rest⟩
theorem row_grown {w w':World} {R:Nat} {place:Int} {f:Nat->Bool} {o:Option Nat} (h:RowAt w R place f) (hg:w.grownBy w' o) (ho:∀ g,o=some g->g≠R):RowAt w' R place f:=by
 have hb:w'.heap[R]?=w.heap[R]?:=hg.block R h.lt (fun e=>ho R e.symm rfl)
 exact⟨(World.cell?_of_block (w:=w) (a:=⟨R,0,none⟩) hb).trans h.1,fun j hj=>⟨(World.cell?_of_block (w:=w) (a:=⟨R,1+j,none⟩) hb).trans (h.2 j hj).1,(World.frozen?_of_block (w:=w) (a:=⟨R,1+j,none⟩) hb).trans (h.2 j hj).2⟩⟩
def tk (place id n:Int) (s t:ByteArray) (sn:Bool):Bool:=mst id place && fit (id,n,s,t) && (rep id place || !sn)
theorem take_bad (R:Nat) (place id n:Int) (s t:ByteArray) (f:Nat->Bool) (w:World) (hR:RowAt w R place f) (h:tk place id n s t (f id.toNat)=false) :
  Calls Tryz.prog 146 #[.pointer (some ⟨R,0,none⟩),.agg #[.int .i64 id,.int .i64 n,.string s,.string t]] w (TakeNo w):=by
 unfold tk at h
 by_cases hm:mst id place=true
 ·by_cases hf:fit (id,n,s,t)=true
  ·obtain⟨h1,h2⟩:=id_range id place hm
   obtain⟨k,rfl⟩:∃ k:Nat,id=k:=⟨id.toNat,by omega⟩
   rw[hm,hf]at h
   simp only[Bool.and_true,Bool.true_and,Int.toNat_natCast,Bool.or_eq_false_iff,Bool.not_eq_false']at h
   exact take_no3 R k place n s t w (by omega) hR.1 (by rw[(hR.2 k (by omega)).1,h.2]) hm hf h.1
  ·exact take_no2 R place id n s t w hR.1 hm (by simpa using hf)
 ·exact take_no1 R place id n s t w hR.1 (by simpa using hm)
theorem take_good (R k:Nat) (place n:Int) (s t:ByteArray) (f:Nat->Bool) (w:World) (hk:k<=42) (hR:RowAt w R place f) (h:tk place k n s t (f k)=true) :
  Calls Tryz.prog 146 #[.pointer (some ⟨R,0,none⟩),.agg #[.int .i64 (k:Int),.int .i64 n,.string s,.string t]] w fun e w'=>e=.returned .nilIface/\∃ w1,Below w.heap.size w w1/\w'=w1.setCell ⟨R,1+k,none⟩ (.bool true):=by
 unfold tk at h
 rw[Bool.and_eq_true,Bool.and_eq_true]at h
 obtain⟨⟨hm,hf⟩,hr⟩:=h
 have hc:=(hR.2 k hk).1
 have hz:=(hR.2 k hk).2
 cases hs:f k
 ·rw[hs]at hc
  exact take_ok0 R k place n s t w hk hR.1 hc hz hm hf
 ·rw[hs]at hc hr
  exact take_ok1 R k place n s t w hk hR.1 hc hz hm hf (by simpa using hr)
theorem take_use (R k:Nat) (place n:Int) (s t:ByteArray) (f g:Nat->Bool) (w:World) (hk:k<=42) (hR:RowAt w R place f) (h:tk place k n s t (f k)=true) (hg:∀ j,j<=42->(f j || decide (k=j))=g j) (B:Nat) (hB:B<=R) :
  Calls Tryz.prog 146 #[.pointer (some ⟨R,0,none⟩),.agg #[.int .i64 (k:Int),.int .i64 n,.string s,.string t]] w fun e w'=>e=.returned .nilIface/\Hid (RowAt w' R place g)/\Below B w w'/\Hid (∀ (B':Nat) (v:Value) (m:Nat) (xs:List Value) (e:TypeId) (q:Nat),R < B'->w.ownsRow B' e q v m xs->w'.ownsRow B' e q v m xs)/\Hid (∀ (b i:Nat),b≠R->b < w.heap.size->w'.cell? ⟨b,i,none⟩=w.cell? ⟨b,i,none⟩):=by
 refine (take_good R k place n s t f w hk hR h).mono ?_
 rintro e w' ⟨rfl,w1,hb,rfl⟩
 have hl:=hR.lt
 refine⟨rfl,((hR.below hb).set k hk).congr hg,(hb.mono (by omega)).setCell hB _,?_,?_⟩
 ·intro B' v m xs e q hB' ho
  exact owns_set (owns_below ho hb) _ _ hB'
 ·intro b i hbR hbw
  rw[World.cell?_setCell_far _ _ _ _ (by simpa using Ne.symm hbR)]
  exact hb.cell (p:=⟨b,i,none⟩) hbw
def PrAt (w:World) (b off:Nat) (l:List Pr):Prop:=∀ k,k < l.length->w.cell? ⟨b,off+k * 4,none⟩=some (.int .i64 (at0 l k).1)/\w.cell? ⟨b,off+k * 4+1,none⟩=some (.int .i64 (at0 l k).2.1)/\w.cell? ⟨b,off+k * 4+2,none⟩=some (.string (at0 l k).2.2.1)/\w.cell? ⟨b,off+k * 4+3,none⟩=some (.string (at0 l k).2.2.2)
theorem PrAt.below {w w':World} {b off:Nat} {l:List Pr} (h:PrAt w b off l) (hb:Below w.heap.size w w'):PrAt w' b off l:=fun k hk=>by
 obtain⟨h0,h1,h2,h3⟩:=h k hk
 have hl:=cell_lt h0
 exact⟨(hb.cell (p:=⟨b,off+k * 4,none⟩) hl).trans h0,(hb.cell (p:=⟨b,off+k * 4+1,none⟩) hl).trans h1,(hb.cell (p:=⟨b,off+k * 4+2,none⟩) hl).trans h2,(hb.cell (p:=⟨b,off+k * 4+3,none⟩) hl).trans h3⟩
def Small (l:List Pr):Prop:=∀ k,k < l.length->(at0 l k).2.2.1.size<=4611686018427387904/\(at0 l k).2.2.2.size<=4611686018427387904
theorem okAt_tk (place:Int) (l:List Pr) (k:Nat):okAt place l k=(tk place (at0 l k).1 (at0 l k).2.1 (at0 l k).2.2.1 (at0 l k).2.2.2 (seen l k (at0 l k).1) && txo (at0 l k)):=by
 unfold okAt tk may
 rw[show ((at0 l k).1,(at0 l k).2.1,(at0 l k).2.2.1,(at0 l k).2.2.2)=at0 l k from rfl]
 cases mst (at0 l k).1 place <;> cases fit (at0 l k) <;> cases txo (at0 l k) <;> cases (rep (at0 l k).1 place || !seen l k (at0 l k).1) <;> rfl
theorem tk_toNat {place id n:Int} {s t:ByteArray} {b:Bool} (f:Int->Bool) (h:tk place id n s t (f id)=b):tk place id n s t (f (id.toNat:Int))=b:=by
 subst h
 by_cases hm:mst id place=true
 ·have:=id_range id place hm
  rw[show (id.toNat:Int)=id from by omega]
 ·have hm':mst id place=false:=by simpa using hm
  unfold tk
  rw[hm'];rfl
theorem tk_mst {place id n:Int} {s t:ByteArray} {sn:Bool} (h:tk place id n s t sn=true):mst id place=true/\fit (id,n,s,t)=true:=by
 unfold tk at h
 rw[Bool.and_eq_true,Bool.and_eq_true]at h
 exact h.1
def gval (k:Int) (l:List Int):Bool×Int×ByteArray×ByteArray×Nat :=
 if k=1\/k=2\/k=4 then (decide (k<=l.length),be k l,es,es,k.toNat)
 else if k=5 then (decide ((V.vget l).2.2=0),(V.vget l).1,es,es,(V.vget l).2.1.toNat)
 else if k=6 then (decide ((gt l).2.2=0),0,(gt l).1,es,(gt l).2.1.toNat)
 else if k=7 then (decide ((gbn l).2.2=0),0,(gbn l).1,es,(gbn l).2.1.toNat)
 else if k=8 then (decide ((gt l).2.2=0) && decide ((gt (l.drop (gt l).2.1.toNat)).2.2=0),0,(gt l).1,(gt (l.drop (gt l).2.1.toNat)).1,(gt l).2.1.toNat+(gt (l.drop (gt l).2.1.toNat)).2.1.toNat)
 else (false,0,es,es,0)
def gid (l:List Int):Int:=(V.vget l).1
def ghd (l:List Int):Nat:=(V.vget l).2.1.toNat
def grs (l:List Int):Bool×Int×ByteArray×ByteArray×Nat:=gval (kd (gid l)) (l.drop (ghd l))
def gok (l:List Int):Bool:=decide ((V.vget l).2.2=0) && (grs l).1
def gpr (l:List Int):Pr:=(gid l,(grs l).2.1,(grs l).2.2.1,(grs l).2.2.2.1)
def gsz (l:List Int):Nat:=ghd l+(grs l).2.2.2.2
def parse (l:List Int):Option (List Pr) :=
 if _h:l=[] then some [] else if gok l=true then (parse (l.drop (max 1 (gsz l)))).map (gpr l :: ·) else none
termination_by l.length
decreasing_by
 rw[List.length_drop]
 have:=List.length_pos_iff.2 _h
 omega
def Rng (l:List Int):Prop:=∀ j,0<=l.getD j 0/\l.getD j 0<=255
theorem Rng.drop {l:List Int} (h:Rng l) (k:Nat):Rng (l.drop k):=fun j=>by
 rw[List.getD_eq_getElem?_getD,List.getElem?_drop,<- List.getD_eq_getElem?_getD];exact h _
theorem vget_is (l:List Int) (hr:Rng l) (h:(V.vget l).2.2=0):V.vget l=(gid l,(ghd l:Int),0)/\1<=ghd l/\ghd l<=l.length/\0<=gid l/\gid l<=268435455/\V.put (gid l)=l.take (ghd l):=by
 obtain⟨n,k,e,he⟩:∃ n k e,V.vget l=(n,k,e):=⟨_,_,_,rfl⟩
 rw[he]at h
 simp only at h
 subst h
 obtain⟨h0,h1,K,rfl,h2,h3,h4⟩:=V.vget_ok l hr n k he
 have e1:gid l=n:=by unfold gid;rw[he]
 have e2:ghd l=K:=by unfold ghd;rw[he];simp
 rw[e1,e2]
 exact⟨he,h2,h3,h0,h1,h4⟩
theorem gt_is (l:List Int) (h:(gt l).2.2=0):gt l=((gt l).1,(((gt l).2.1.toNat:Nat):Int),0)/\2<=(gt l).2.1.toNat/\(gt l).2.1.toNat<=l.length/\utf (sb (gt l).1)=true/\(gt l).1=gbs l:=by
 rcases gt_cases l with⟨s,K,hf,hu,rfl,rfl,hg⟩ | ⟨m,hm,hg⟩
 ·rw[hg]
  unfold full at hf
  rw[Bool.and_eq_true,decide_eq_true_eq,decide_eq_true_eq]at hf
  refine⟨by rw[Int.toNat_natCast],?_,?_,hu,rfl⟩
  ·show 2<=((2+nb l:Nat):Int).toNat
   omega
  ·show ((2+nb l:Nat):Int).toNat<=_
   omega
 ·rw[hg]at h
  exact absurd h hm
theorem gbn_is (l:List Int) (h:(gbn l).2.2=0):gbn l=((gbn l).1,(((gbn l).2.1.toNat:Nat):Int),0)/\2<=(gbn l).2.1.toNat/\(gbn l).2.1.toNat<=l.length/\(gbn l).1=gbs l:=by
 unfold gbn at *
 by_cases hf:full l=true
 ·rw[if_pos hf]at h |-
  unfold full at hf
  rw[Bool.and_eq_true,decide_eq_true_eq,decide_eq_true_eq]at hf
  refine⟨by rw[Int.toNat_natCast],?_,?_,rfl⟩
  ·show 2<=((2+nb l:Nat):Int).toNat
   omega
  ·show ((2+nb l:Nat):Int).toNat<=_
   omega
 ·rw[if_neg hf]at h
  simp at h
theorem gval_le (k:Int) (l:List Int) (hr:Rng l) (h:(gval k l).1=true):(gval k l).2.2.2.2<=l.length:=by
 unfold gval at h |-
 by_cases k1:k=1\/k=2\/k=4
 ·rw[if_pos k1]at h |-
  simp only[decide_eq_true_eq]at h |-
  omega
 rw[if_neg k1]at h |-
 by_cases k5:k=5
 ·rw[if_pos k5]at h |-
  simp only[decide_eq_true_eq]at h |-
  exact (vget_is l hr h).2.2.1
 rw[if_neg k5]at h |-
 by_cases k6:k=6
 ·rw[if_pos k6]at h |-
  simp only[decide_eq_true_eq]at h |-
  exact (gt_is l h).2.2.1
 rw[if_neg k6]at h |-
 by_cases k7:k=7
 ·rw[if_pos k7]at h |-
  simp only[decide_eq_true_eq]at h |-
  exact (gbn_is l h).2.2.1
 rw[if_neg k7]at h |-
 by_cases k8:k=8
 ·rw[if_pos k8]at h |-
  simp only[Bool.and_eq_true,decide_eq_true_eq]at h |-
  have a:=(gt_is l h.1).2.2.1
  have b:=(gt_is _ h.2).2.2.1
  rw[List.length_drop]at b
  omega
 rw[if_neg k8]at h
 simp at h
theorem gok_le (l:List Int) (hr:Rng l) (h:gok l=true):1<=gsz l/\gsz l<=l.length/\0<=gid l/\gid l<=268435455:=by
 unfold gok at h
 rw[Bool.and_eq_true,decide_eq_true_eq]at h
 obtain⟨_,a,b,c,d,_⟩:=vget_is l hr h.1
 have e:=gval_le _ _ (hr.drop (ghd l)) h.2
 rw[List.length_drop]at e
 unfold gsz grs
 omega
theorem parse_nil:parse []=some []:=by rw[parse,dif_pos rfl]
theorem parse_no (l:List Int) (h:l≠[]) (hg:gok l=false):parse l=none:=by rw[parse,dif_neg h,if_neg (by rw[hg];decide)]
theorem parse_yes (l:List Int) (h:l≠[]) (hr:Rng l) (hg:gok l=true):parse l=(parse (l.drop (gsz l))).map (gpr l :: ·):=by
 rw[parse,dif_neg h,if_pos hg,Nat.max_eq_right (gok_le l hr hg).1]
theorem getOne_good (v:Value) (l:List Int) (w:World) (h:Byt w v l) (hg:gok l=true):Calls Tryz.prog 144 #[v] w (GoOk (gpr l) (gsz l) w):=by
 have hr:=h.range
 have hle:=gok_le l hr hg
 unfold gok at hg
 rw[Bool.and_eq_true,decide_eq_true_eq]at hg
 obtain⟨hv,a,b,c,d,_⟩:=vget_is l hr hg.1
 have hg2:=hg.2
 have hl:=gval_le _ _ (Rng.drop hr (ghd l)) hg2
 rw[List.length_drop]at hl
 unfold gpr gsz
 refine gone_ok v l w h (gid l) (ghd l) hv ⟨a,b⟩ (frm (gid l)) (wid (gid l)) (lst (gid l)) (mx (gid l)) rfl _ _ _ _ (by unfold grs;omega) ?_
 intro vb W hb
 have hfrm:frm (gid l)=(if kd (gid l)=1\/kd (gid l)=2\/kd (gid l)=4 then 1 else if kd (gid l)=5 then 2 else if kd (gid l)=6 then 3 else if kd (gid l)=7 then 4 else if kd (gid l)=8 then 5 else 0):=rfl
 have hwid:wid (gid l)=(if kd (gid l)=1\/kd (gid l)=2\/kd (gid l)=4 then kd (gid l) else 0):=rfl
 have hr':=Rng.drop hr (ghd l)
 unfold grs at hg2 |-
 generalize kd (gid l)=k at hg2 hfrm hwid |-
 generalize l.drop (ghd l)=m at hg2 hb hr' |-
 rw[hfrm,hwid]
 clear hfrm hwid
 unfold gval at hg2 |-
 by_cases k1:k=1\/k=2\/k=4
 ·rw[if_pos k1]at hg2 |-
  rw[if_pos k1,if_pos k1]
  simp only[decide_eq_true_eq]at hg2 |-
  have:=gval_num vb m W hb k (lst (gid l)) (mx (gid l)) k1 hg2
  rw[show ((k.toNat:Nat):Int)=k from by omega]
  exact this
 rw[if_neg k1]at hg2 |-
 rw[if_neg k1,if_neg k1]
 by_cases k5:k=5
 ·rw[if_pos k5]at hg2 |-
  rw[if_pos k5]
  simp only[decide_eq_true_eq]at hg2 |-
  obtain⟨hv',_⟩:=vget_is m hr' hg2
  exact gval_var vb m W hb _ _ _ _ _ hv'
 rw[if_neg k5]at hg2 |-
 rw[if_neg k5]
 by_cases k6:k=6
 ·rw[if_pos k6]at hg2 |-
  rw[if_pos k6]
  simp only[decide_eq_true_eq]at hg2 |-
  exact gval_text vb m W hb _ _ _ _ _ (gt_is m hg2).1
 rw[if_neg k6]at hg2 |-
 rw[if_neg k6]
 by_cases k7:k=7
 ·rw[if_pos k7]at hg2 |-
  rw[if_pos k7]
  simp only[decide_eq_true_eq]at hg2 |-
  exact gval_bin vb m W hb _ _ _ _ _ (gbn_is m hg2).1
 rw[if_neg k7]at hg2 |-
 rw[if_neg k7]
 by_cases k8:k=8
 ·rw[if_pos k8]at hg2 |-
  rw[if_pos k8]
  simp only[Bool.and_eq_true,decide_eq_true_eq]at hg2 |-
  obtain⟨e1,e2,e3,_⟩:=gt_is m hg2.1
  obtain⟨f1,f2,f3,_⟩:=gt_is _ hg2.2
  rw[List.length_drop]at f3
  exact gval_pair vb m W hb _ _ _ _ _ _ _ e1 f1 ⟨e2,e3⟩ (by omega)
 rw[if_neg k8]at hg2
 simp at hg2
theorem getOne_fail (v:Value) (l:List Int) (w:World) (h:Byt w v l) (hg:gok l=false):Calls Tryz.prog 144 #[v] w (GvBad w):=by
 have hr:=h.range
 by_cases hv0:(V.vget l).2.2=0
 ·obtain⟨hv,a,b,c,d,_⟩:=vget_is l hr hv0
  have hg2:(grs l).1=false:=by
   unfold gok at hg
   rw[hv0]at hg
   simpa using hg
  refine gone_bad2 v l w h (gid l) (ghd l) hv ⟨a,b⟩ (frm (gid l)) (wid (gid l)) (lst (gid l)) (mx (gid l)) rfl ?_
  intro vb W hb
  have hfrm:frm (gid l)=(if kd (gid l)=1\/kd (gid l)=2\/kd (gid l)=4 then 1 else if kd (gid l)=5 then 2 else if kd (gid l)=6 then 3 else if kd (gid l)=7 then 4 else if kd (gid l)=8 then 5 else 0):=rfl
  have hwid:wid (gid l)=(if kd (gid l)=1\/kd (gid l)=2\/kd (gid l)=4 then kd (gid l) else 0):=rfl
  unfold grs at hg2
  generalize kd (gid l)=k at hg2 hfrm hwid |-
  generalize l.drop (ghd l)=m at hg2 hb
  rw[hfrm,hwid]
  clear hfrm hwid
  unfold gval at hg2
  by_cases k1:k=1\/k=2\/k=4
  ·rw[if_pos k1]at hg2
   rw[if_pos k1,if_pos k1]
   simp only[decide_eq_false_iff_not]at hg2
   exact gval_num_bad vb m W hb k _ _ (by omega)
  rw[if_neg k1]at hg2
  rw[if_neg k1,if_neg k1]
  by_cases k5:k=5
  ·rw[if_pos k5]at hg2
   rw[if_pos k5]
   simp only[decide_eq_false_iff_not]at hg2
   exact gval_var_bad vb m W hb _ _ _ _ rfl hg2
  rw[if_neg k5]at hg2
  rw[if_neg k5]
  by_cases k6:k=6
  ·rw[if_pos k6]at hg2
   rw[if_pos k6]
   simp only[decide_eq_false_iff_not]at hg2
   exact gval_text_bad vb m W hb _ _ _ _ rfl hg2
  rw[if_neg k6]at hg2
  rw[if_neg k6]
  by_cases k7:k=7
  ·rw[if_pos k7]at hg2
   rw[if_pos k7]
   simp only[decide_eq_false_iff_not]at hg2
   exact gval_bin_bad vb m W hb _ _ _ _ rfl hg2
  rw[if_neg k7]at hg2
  rw[if_neg k7]
  by_cases k8:k=8
  ·rw[if_pos k8]at hg2
   rw[if_pos k8]
   by_cases h1:(gt m).2.2=0
   ·obtain⟨e1,e2,e3,_⟩:=gt_is m h1
    have h2:¬ (gt (m.drop (gt m).2.1.toNat)).2.2=0:=by
     rw[h1]at hg2
     simpa using hg2
    exact gval_pair_bad vb m W hb _ _ _ (fun W' hb'=>gpair_bad2 vb m W' hb' _ _ e1 ⟨e2,e3⟩ _ rfl h2)
   ·exact gval_pair_bad vb m W hb _ _ _ (fun W' hb'=>gpair_bad1 vb m W' hb' _ rfl h1)
  rw[if_neg k8]
  exact gval_none vb m W hb _ _ _
 ·exact gone_bad1 v l w h _ rfl hv0
theorem gpr_txo (l:List Int) (hr:Rng l) (h:gok l=true):txo (gpr l)=true/\(gpr l).2.2.1.size<=65535/\(gpr l).2.2.2.size<=65535:=by
 unfold gok at h
 rw[Bool.and_eq_true,decide_eq_true_eq]at h
 have hg2:=h.2
 have hr':=hr.drop (ghd l)
 unfold gpr txo
 simp only
 unfold grs at hg2 |-
 generalize kd (gid l)=k at hg2 |-
 generalize l.drop (ghd l)=m at hg2 hr' |-
 have hes:es.size<=65535:=by decide
 have key:∀ s:ByteArray,utf (sb s)=true->s.size<=65535->chk (sb s)=0:=fun s a b=>by
  unfold chk
  rw[if_pos a,if_pos (by rw[sb_length];exact b)]
 unfold gval at hg2 |-
 by_cases k1:k=1\/k=2\/k=4
 ·rw[if_pos k1]
  rw[if_neg (by omega),if_neg (by omega),if_neg (by omega)]
  exact⟨by simp;omega,hes,hes⟩
 rw[if_neg k1]at hg2 |-
 by_cases k5:k=5
 ·rw[if_pos k5]
  rw[if_neg (by omega),if_neg (by omega),if_neg (by omega)]
  exact⟨by simp;omega,hes,hes⟩
 rw[if_neg k5]at hg2 |-
 by_cases k6:k=6
 ·rw[if_pos k6]at hg2 |-
  simp only[decide_eq_true_eq]at hg2 |-
  rw[if_pos k6]
  obtain⟨_,_,_,hu,hs⟩:=gt_is m hg2
  have hz:(gt m).1.size<=65535:=by rw[hs];exact gbs_size m hr'
  exact⟨key _ hu hz,hz,hes⟩
 rw[if_neg k6]at hg2 |-
 by_cases k7:k=7
 ·rw[if_pos k7]at hg2 |-
  simp only[decide_eq_true_eq]at hg2 |-
  rw[if_neg k6,if_pos k7]
  obtain⟨_,_,_,hs⟩:=gbn_is m hg2
  have hz:(gbn m).1.size<=65535:=by rw[hs];exact gbs_size m hr'
  exact⟨hz,hz,hes⟩
 rw[if_neg k7]at hg2 |-
 by_cases k8:k=8
 ·rw[if_pos k8]at hg2 |-
  simp only[Bool.and_eq_true,decide_eq_true_eq]at hg2 |-
  rw[if_neg k6,if_neg k7,if_pos k8]
  obtain⟨_,_,_,hu,hs⟩:=gt_is m hg2.1
  obtain⟨_,_,_,hu2,hs2⟩:=gt_is _ hg2.2
  have hz:(gt m).1.size<=65535:=by rw[hs];exact gbs_size m hr'
  have hz2:(gt (m.drop (gt m).2.1.toNat)).1.size<=65535:=by rw[hs2];exact gbs_size _ (hr'.drop _)
  exact⟨⟨key _ hu hz,key _ hu2 hz2⟩,hz,hz2⟩
 rw[if_neg k8]at hg2
 simp at hg2
theorem at0_app (d e:List Pr) (i:Nat) (h:i < d.length):at0 (d++e) i=at0 d i:=by
 unfold at0
 rw[List.getD_eq_getElem?_getD,List.getElem?_append_left h,<- List.getD_eq_getElem?_getD]
theorem at0_mid (d e:List Pr) (p:Pr):at0 (d++p :: e) d.length=p:=by
 unfold at0
 simp
def sn (d:List Pr) (id:Int):Bool:=d.any fun q=>decide (q.1=id)
theorem seen_app (d e:List Pr) (i:Nat) (h:i<=d.length) (id:Int):seen (d++e) i id=seen d i id:=by
 unfold seen
 rw[List.take_append_of_le_length h]
theorem okAt_app (place:Int) (d e:List Pr) (i:Nat) (h:i < d.length):okAt place (d++e) i=okAt place d i:=by
 unfold okAt
 rw[at0_app d e i h,seen_app d e i (by omega)]
theorem okAt_mid (place:Int) (d e:List Pr) (p:Pr):okAt place (d++p :: e) d.length=(tk place p.1 p.2.1 p.2.2.1 p.2.2.2 (sn d p.1) && txo p):=by
 rw[okAt_tk,at0_mid,seen_app d _ _ (Nat.le_refl _)]
 unfold seen sn
 rw[List.take_length]
theorem sn_snoc (d:List Pr) (p:Pr) (id:Int):sn (d++[p]) id=(sn d id || decide (p.1=id)):=by
 unfold sn
 rw[List.any_append];simp
def rdn (place:Int) (l:List Int):Int:=match parse l with
 | none=>1
 | some q=>chkP place q
theorem rdn_none (place:Int) (l:List Int) (h:parse l=none):rdn place l=1:=by unfold rdn;rw[h]
theorem rdn_some (place:Int) (l:List Int) (q:List Pr) (h:parse l=some q):rdn place l=chkP place q:=by unfold rdn;rw[h]
theorem rdn_bad (place:Int) (l r:List Int) (d:List Pr) (p:Pr) (h:parse l=(parse r).map ((d++[p])++·)) (hp:okAt place (d++[p]) d.length=false):rdn place l=1:=by
 cases hr:parse r with
 | none=>rw[hr]at h;exact rdn_none place l h
 | some q =>
  rw[hr]at h
  rw[rdn_some place l _ h]
  refine chkP_bad place _ d.length (by simp) ?_
  rw[okAt_app place (d++[p]) q d.length (by simp)]
  exact hp
def Prp (w:World) (v:Value) (l:List Pr):Prop:=∃ ao cap,v=.slice ao l.length cap/\(l=[]\/∃ b off,ao=some ⟨b,off,none⟩/\PrAt w b off l)
theorem Prp.below {w w':World} {v:Value} {l:List Pr} (h:Prp w v l) (hb:Below w.heap.size w w'):Prp w' v l:=by
 obtain⟨ao,cap,h1,h2⟩:=h
 refine⟨ao,cap,h1,?_⟩
 rcases h2 with h2 | ⟨b,off,e,hc⟩
 ·exact .inl h2
 ·exact .inr ⟨b,off,e,hc.below hb⟩
theorem Prp.form {w:World} {v:Value} {l:List Pr} (h:Prp w v l):∃ ao cap,v=.slice ao l.length cap:=by
 obtain⟨ao,cap,h1,_⟩:=h
 exact⟨ao,cap,h1⟩
def pcs (l:List Pr):List Value:=l.flatMap fun p=>[.int .i64 p.1,.int .i64 p.2.1,.string p.2.2.1,.string p.2.2.2]
theorem Tryz.infoProp:(Tryz.prog.info? 109).map (fun i=>(i.zero,i.size,i.bytes))=some (some (.agg #[.int .i64 0,.int .i64 0,.string ⟨#[]⟩,.string ⟨#[]⟩]),4,48):=by kernel_rfl
theorem four_cell (w:World) (a b c d:Value) (t:TypeId):∀ j u,[a,b,c,d][j]?=some u->(w.alloc (.cells #[a,b,c,d] t)).cell? ((⟨w.heap.size,0,none⟩:Addr).add j)=some u:=by
 intro j u hj
 match j,hj with
 | 0,hj=>simp at hj;subst hj;simp[Addr.add]
 | 1,hj=>simp at hj;subst hj;simp[Addr.add]
 | 2,hj=>simp at hj;subst hj;simp[Addr.add]
 | 3,hj=>simp at hj;subst hj;simp[Addr.add]
theorem four_one (a b:Int) (c d:ByteArray):∀ u ∈ [Value.int .i64 a,.int .i64 b,.string c,.string d],u.oneCell'=true:=by
 intro u hu;simp at hu;rcases hu with rfl | rfl | rfl | rfl <;> rfl
theorem Tryz.eqgP:Tryz.prog.eqGuardType Tryz.prog.depth 109=false:=by kernel_rfl
theorem Tryz.stoodP:Tryz.prog.stoodInHeld 109=false:=by kernel_rfl
theorem Tryz.undP:Tryz.prog.underlying 109=some (.struct (Tryz.prog.fieldsOf 109)):=by kernel_rfl
def same (p q:Pr):Bool:=(p.1 == q.1 && p.2.1 == q.2.1 && p.2.2.1.toList == q.2.2.1.toList && p.2.2.2.toList == q.2.2.2.toList)
theorem neqP (id n id' n':Int) (s t s' t':ByteArray) (w:World):(binOp .neq 109 (.agg #[.int .i64 id,.int .i64 n,.string s,.string t]) (.agg #[.int .i64 id',.int .i64 n',.string s',.string t'])).run Tryz.prog w=.ok (.bool (!(same (id,n,s,t) (id',n',s',t')))) w:=by
 rw[run_neq_struct,run_equalIn_struct w 9999 109 _ _ Tryz.undP Tryz.stoodP]
 rw[show Tryz.prog.fieldsOf 109=_ from rfl]
 simp[Program.fieldsOf,Tryz.underlying109,Op.eqFields,go_sem]
 unfold same
 by_cases h1:id=id'
 ·by_cases h2:n=n'
  ·by_cases h3:s.toList=s'.toList
   ·by_cases h4:t.toList=t'.toList
    ·simp[h1,h2,h3,h4]
    ·simp[h1,h2,h3,h4]
   ·simp[h1,h2,h3]
  ·simp[h1,h2]
 ·simp[h1]
theorem toList_inj {a b:ByteArray} (h:a.toList=b.toList):a=b:=by
 rw[ByteArray.toList_eq,ByteArray.toList_eq]at h
 obtain⟨⟨x⟩⟩:=a
 obtain⟨⟨y⟩⟩:=b
 simp at h
 rw[h]
theorem same_iff (p q:Pr):same p q=true ↔ p=q:=by
 obtain⟨a,b,c,d⟩:=p
 obtain⟨a',b',c',d'⟩:=q
 unfold same
 constructor
 ·intro h
  simp only[Bool.and_eq_true,beq_iff_eq]at h
  obtain⟨⟨⟨h1,h2⟩,h3⟩,h4⟩:=h
  rw[h1,h2,toList_inj h3,toList_inj h4]
 ·rintro h
  injection h with h1 h
  injection h with h2 h
  injection h with h3 h4
  subst h1 h2 h3 h4
  simp
theorem eqp_core (ba oa bb ob ca cb:Nat) (l m:List Pr) (len:Nat) (w:World) (hl:l.length=len) (hm:m.length=len) (hmx:len<=1000000000) (ha:PrAt w ba oa l) (hb:PrAt w bb ob m) :
  Calls Tryz.prog 33 #[.slice (some ⟨ba,oa,none⟩) len ca,.slice (some ⟨bb,ob,none⟩) len cb] w fun e w'=>(∃ b,e=.returned (.bool b)/\(b=true ↔ ∀ j,j < len->at0 l j=at0 m j))/\∃ k,w'=w.drewN k:=by
 have HL:=zh hl
 have HM:=zh hm
 have HA:=zh ha
 have HB:=zh hb
 clear hl hm ha hb
 go_enter Tryz.func33,Tryz.ntmps33
 go_wp2
 go_loopw [5] (fun i wr=>∃ k q:Nat,k<=len/\i=.int .i64 k/\wr=w.drewN q/\Hid (∀ j,j < k->at0 l j=at0 m j)) (fun i _=>len - (intOf i).toNat)
 case atStart=>exact⟨0,0,Nat.zero_le _,rfl,rfl,fun j hj=>absurd hj (Nat.not_lt_zero j)⟩
 case round =>
  obtain⟨k,q,hk,rfl,rfl,HALL⟩:=hrel
  by_cases hlt:k < len
  ·obtain⟨h0,h1,h2,h3⟩:=(uh HA) k (by rw[uh HL];exact hlt)
   obtain⟨g0,g1,g2,g3⟩:=(uh HB) k (by rw[uh HM];exact hlt)
   obtain⟨id,n,s,t,hp⟩:∃ id n s t,at0 l k=(id,n,s,t):=⟨_,_,_,_,rfl⟩
   obtain⟨id',n',s',t',hp'⟩:∃ id n s t,at0 m k=(id,n,s,t):=⟨_,_,_,_,rfl⟩
   rw[hp]at h0 h1 h2 h3
   rw[hp']at g0 g1 g2 g3
   simp only at h0 h1 h2 h3 g0 g1 g2 g3
   have HP:=zh hp
   have HP':=zh hp'
   clear hp hp'
   have qg:=Tryz.eqgP
   have qn:=fun W=>neqP id n id' n' s t s' t' W
   generalize hsb:same (id,n,s,t) (id',n',s',t')=sb at qn
   have HSB:=zh hsb
   clear hsb
   cases sb
   ·have HNE:Hid (at0 l k≠at0 m k):=fun e=>by
     rw[uh HP,uh HP']at e
     have:=(same_iff _ _).2 e
     rw[uh HSB]at this
     cases this
    go_wp2
    go_quiet (fail)
    go_wp2
    go_ret
    refine⟨⟨_,rfl,?_⟩,q+nq,drewN_drewN _ _ _⟩
    constructor
    ·intro h;cases h
    ·intro h;exact absurd (h k hlt) (uh HNE)
   ·have HE:Hid (at0 l k=at0 m k):=by
     show _=_
     rw[uh HP,uh HP']
     exact (same_iff _ _).1 (uh HSB)
    go_wp2
    go_quiet (fail)
    go_wp2
    go_roundw
    case rel=>exact⟨k+1,_,by omega,by go_num,rfl,fun j hj=>by
     rcases Nat.lt_succ_iff_lt_or_eq.1 hj with h | h
     ·exact (uh HALL) j h
     ·rw[h];exact uh HE⟩
    case measure=>simp[intOf];omega
  ·go_wp2
   go_ret
   exact⟨⟨_,rfl,fun _ j hj=>(uh HALL) j (by omega),fun _=>rfl⟩,_,rfl⟩
theorem eqp_len (ao bo:Option Addr) (n m ca cb:Nat) (w:World) (h:n≠m) :
  Calls Tryz.prog 33 #[.slice ao n ca,.slice bo m cb] w fun e w'=>e=.returned (.bool false)/\w'=w:=by
 have h1:((n:Int) == (m:Int))=false:=beq_eq_false_iff_ne.2 (by omega)
 go_enter Tryz.func33,Tryz.ntmps33
 go_wp2
 go_ret
 exact⟨rfl,rfl⟩
theorem eqp_nil (ao bo:Option Addr) (ca cb:Nat) (w:World) :
  Calls Tryz.prog 33 #[.slice ao 0 ca,.slice bo 0 cb] w fun e w'=>e=.returned (.bool true)/\w'=w:=by
 go_enter Tryz.func33,Tryz.ntmps33
 go_wp2
 refine wp_loop_rounds 1 ?_
 rw[rounds_succ]
 go_wp2
 go_ret
 exact⟨rfl,rfl⟩
theorem at0_ext {l m:List Pr} (hl:l.length=m.length) (h:∀ j,j < l.length->at0 l j=at0 m j):l=m:=by
 apply List.ext_getElem hl
 intro i h1 h2
 have:=h i h1
 unfold at0 at this
 rw[List.getD_eq_getElem?_getD,List.getD_eq_getElem?_getD,List.getElem?_eq_getElem h1,List.getElem?_eq_getElem h2]at this
 exact this
def lenOf:Value->Nat
 | .slice _ n _=>n
 | _=>0
def ReadPost (place:Int) (l:List Int) (w:World) (e:Ending) (w':World):Prop :=
 (∃ q v,parse l=some q/\okTo place q q.length/\e=.returned (.tuple #[v,.int .i64 q.length,.nilIface])/\Hid (w'.ownsRow w.heap.size 109 4 v (min q.length 32) (pcs (q.take 32)))/\Below w.heap.size w w') \/
 (rdn place l=1/\∃ E,e=.returned (.tuple #[.slice none 0 0,.int .i64 0,.iface 118 E])/\Hid (ErrP w' (.iface 118 E) 1)/\Below w.heap.size w w')
theorem pcs_app (d:List Pr) (p:Pr):pcs (d++[p])=pcs d++[.int .i64 p.1,.int .i64 p.2.1,.string p.2.2.1,.string p.2.2.2]:=by unfold pcs;simp
theorem okTo_snoc (place:Int) (d:List Pr) (p:Pr) (h:okTo place d d.length) (hp:okAt place (d++[p]) d.length=true):okTo place (d++[p]) (d++[p]).length:=by
 intro i hi
 rw[List.length_append,List.length_singleton]at hi
 rcases Nat.lt_or_ge i d.length with a | a
 ·rw[okAt_app place d [p] i a];exact h i a
 ·obtain rfl:i=d.length:=by omega
  exact hp
theorem read_any (v:Value) (l:List Int) (place:Int) (w:World) (h:Byt w v l) :
  Calls Tryz.prog 119 #[v,.int .i64 place] w (ReadPost place l w):=by
 obtain⟨i0,hi,hz0,hz1,hz2⟩:=info_parts Tryz.infoProp
 obtain⟨ao,cap,rfl,hc1,hc2⟩:=h.form
 unfold maxLen at hc2
 have HV:=zh h
 clear h
 generalize hn:l.length=n at hc1 HV
 have HN:=zh hn
 clear hn
 go_enter Tryz.func119,Tryz.ntmps119
 iterate 19 go_step
 refine wpList_value rfl (row_build _ _ _ _ _ _ place rfl _) ?_
 simp only[Act.put,List.setIfInBounds_toArray,List.set_cons_zero,List.set_cons_succ]
 refine wpList_value rfl (row_alloc _ _ _ _ _ _) ?_
 simp only[Act.put,List.setIfInBounds_toArray,List.set_cons_zero,List.set_cons_succ]
 refine wpList_skip rfl (row_store _ _ _ _ _ _ _ place _ rfl rfl) ?_
 simp only[Act.put]
 go_wp2
 have hR0:Hid (RowAt (w.alloc (.cells (rowA place) 204)) w.heap.size place (fun _=>false)):=rowAt_new w place
 go_loopw [0,4,5] (fun b0 l0 c0 wr=>∃ (bv lv:Value) (rest:List Int) (d:List Pr) (k m:Nat),b0=bv/\l0=lv/\c0=.int .i64 k/\m+k<=n/\Hid (d.length=k)/\Hid (rest.length=m)/\Hid (Byt w bv rest)/\Hid (parse l=(parse rest).map (d++·))/\Hid (okTo place d d.length)/\Hid (RowAt wr w.heap.size place (fun j=>sn d j))/\Hid (wr.ownsRow (w.heap.size+1) 109 4 lv (min k 32) (pcs (d.take 32)))/\Below w.heap.size w wr) (fun b0 _ _ _=>lenOf b0)
 case atStart =>
  refine⟨_,_,l,[],0,n,rfl,rfl,rfl,by omega,rfl,uh HN,uh HV,?_,okTo_zero _ _,(uh hR0).congr (fun j _=>rfl),?_,bal _ _⟩
  ·show parse l=_
   cases parse l <;> simp
  ·exact World.ownsRow_nil _ _ _ _
 case round =>
  obtain⟨_,_,rest,d,k,m,rfl,rfl,rfl,hmk,HD,HM,HY,HP,HOK,HROW,HOWN,hbel⟩:=hrel
  clear hR0
  have hsz:=hbel.size
  have hRl:=(uh HROW).lt
  obtain⟨ao2,cap2,hu0,hcc1,hcc2⟩:=(uh HY).form
  unfold maxLen at hcc2
  rw[uh HM]at hu0 hcc1
  by_cases hm0:m=0
  ·subst hu0
   subst hm0
   have HPA:Hid (parse l=some d):=by
    have hr0:rest=[]:=List.length_eq_zero_iff.1 (uh HM)
    have:=uh HP
    rw[hr0,parse_nil]at this
    show parse l=some d
    simpa using this
   have HO2:Hid (wr.ownsRow w.heap.size 109 4 u4 (min d.length 32) (pcs (d.take 32))):=by
    show World.ownsRow _ _ _ _ _ _ _
    rw[uh HD]
    exact owns_mono (uh HOWN) (by omega)
   have HDD:Hid ((k:Int)=(d.length:Int)):=by show _=_;rw[uh HD]
   go_wp2
   go_returns
   exact .inl ⟨d,_,uh HPA,uh HOK,by rw[<- uh HDD];rfl,HO2,hbel⟩
  ·have HNE:Hid (rest≠[]):=by
    intro e
    have:=uh HM
    rw[e]at this
    simp at this
    omega
   have hbel':=zh hbel
   have HY':Hid (Byt wr u0 rest):=(uh HY).below hbel
   have HYW:Hid (Byt w u0 rest):=HY
   obtain⟨b,off,cap3,hu1,-,-⟩:=(uh HY).form1 (by rw[uh HM];omega)
   rw[hu0]at hu1
   simp only[Value.slice.injEq]at hu1
   obtain⟨rfl,-,rfl⟩:=hu1
   subst hu0
   clear hbel HY
   cases hgk:gok rest
   ·have HC:Hid (rdn place l=1):=rdn_none place l (by rw[uh HP,parse_no rest (uh HNE) hgk];rfl)
    have HGK:=zh hgk
    clear hgk
    go_wp2_with fail
    refine (getOne_fail _ rest _ (uh HY') (uh HGK)).mono ?_
    rintro e w2 ⟨i2,n2,s2,t2,k2,ty2,x2,m2,rfl,hin2,hb2⟩
    have HB2:Hid (Below w.heap.size w w2):=(uh hbel').trans (hb2.mono hsz)
    have hs2:=(uh HB2).size
    go_wp2_with fail
    refine (broken_use _ m2 _ ((uh hin2).below (bal _ _))).mono ?_
    rintro e w4 ⟨E,rfl,hE,hb4⟩
    go_wp2
    go_returns
    exact .inr ⟨uh HC,_,rfl,hE,((uh HB2).alloc hs2 _).trans (hb4.mono (by simp;omega))⟩
   ·have hr:=(uh HY').range
    obtain⟨hg1,hg2,hg3,hg4⟩:=gok_le rest hr hgk
    rw[uh HM]at hg2
    have HTX:=zh (gpr_txo rest hr hgk)
    have HPY:=zh (parse_yes rest (uh HNE) hr hgk)
    have HG1:=zh (getOne_good _ rest _ (uh HY') hgk)
    clear hr hgk
    generalize hz:gsz rest=z at hg1 hg2 HPY HG1
    clear hz
    obtain⟨id,N,s,t,hp⟩:∃ id N s t,gpr rest=(id,N,s,t):=⟨_,_,_,_,rfl⟩
    have hid:id=gid rest:=by have:=congrArg Prod.fst hp;exact this.symm
    rw[<- hid]at hg3 hg4
    rw[hp]at HTX HPY HG1
    clear hp hid
    have HP2:Hid (parse l=(parse (rest.drop z)).map ((d++[(id,N,s,t)])++·)):=by
     show _=_
     rw[uh HP,uh HPY,Option.map_map]
     congr 1
     funext x
     simp
    clear HPY HP
    go_wp2_with fail
    refine (uh HG1).mono ?_
    rintro e w2 ⟨rfl,hb2⟩
    have HB2:Hid (Below w.heap.size w w2):=(uh hbel').trans (hb2.mono hsz)
    have hs2:=(uh HB2).size
    have HROW2:Hid (RowAt w2 w.heap.size place (fun j=>sn d j)):=(uh HROW).below hb2
    have HOWN2:Hid (w2.ownsRow (w.heap.size+1) 109 4 u4 (min k 32) (pcs (d.take 32))):=owns_below (uh HOWN) hb2
    have hRl2:=(uh HROW2).lt
    clear hb2 HROW HOWN HY' hbel' HG1
    have HOT:=zh (okAt_mid place d [] (id,N,s,t))
    cases htk:tk place id N s t (sn d id)
    ·have HC:Hid (rdn place l=1):=rdn_bad place l _ d _ (uh HP2) ((uh HOT).trans (by simp only[htk,Bool.false_and]))
     have HTK:=zh (tk_toNat (sn d) htk)
     clear htk HOT
     go_wp2_with fail
     refine (take_bad w.heap.size place id N s t (fun j=>sn d j) _ ((uh HROW2).below (bal _ _)) (uh HTK)).mono ?_
     rintro e w3 ⟨E,rfl,hE,hb3⟩
     go_wp2
     go_returns
     exact .inr ⟨uh HC,_,rfl,hE,((uh HB2).alloc hs2 _).trans (hb3.mono (by simp;omega))⟩
    ·obtain⟨hmst,hfit⟩:=tk_mst htk
     obtain⟨hi1,hi2⟩:=id_range id place hmst
     obtain⟨q,rfl⟩:∃ q:Nat,id=q:=⟨id.toNat,by omega⟩
     have HOKM:Hid (okAt place (d++[((q:Int),N,s,t)]) d.length=true):=(uh HOT).trans (by simp only[htk,Bool.true_and];exact (uh HTX).1)
     have HOK2:Hid (okTo place (d++[((q:Int),N,s,t)]) (d++[((q:Int),N,s,t)]).length):=okTo_snoc place d _ (uh HOK) (uh HOKM)
     have HTK:=zh htk
     have HG:Hid (∀ j:Nat,j<=42->(sn d (j:Int) || decide (q=j))=sn (d++[((q:Int),N,s,t)]) (j:Int)):=fun j _=>by
      rw[sn_snoc,show decide (((q:Int),N,s,t).1=(j:Int))=decide (q=j) from by rw[decide_eq_decide];constructor <;> intro h <;> omega]
     clear htk hmst hfit HOT HOKM HOK
     go_wp2_with fail
     refine (take_use w.heap.size q place N s t (fun j=>sn d j) (fun j=>sn (d++[((q:Int),N,s,t)]) j) _ (by omega) ((uh HROW2).below (bal _ _)) (uh HTK) (uh HG) w.heap.size (Nat.le_refl _)).mono ?_
     rintro e w3 ⟨rfl,HROW3,hb3,HOWT,HCT⟩
     have d0:w3.cell? ⟨w2.heap.size,0,none⟩=some (.int .i64 (q:Int)):=((uh HCT) w2.heap.size 0 (by omega) (by simp)).trans (by simp)
     have d1:w3.cell? ⟨w2.heap.size,1,none⟩=some (.int .i64 N):=((uh HCT) w2.heap.size 1 (by omega) (by simp)).trans (by simp)
     have d2:w3.cell? ⟨w2.heap.size,2,none⟩=some (.string s):=((uh HCT) w2.heap.size 2 (by omega) (by simp)).trans (by simp)
     have d3:w3.cell? ⟨w2.heap.size,3,none⟩=some (.string t):=((uh HCT) w2.heap.size 3 (by omega) (by simp)).trans (by simp)
     have HOWN3:Hid (w3.ownsRow (w.heap.size+1) 109 4 u4 (min k 32) (pcs (d.take 32))):=(uh HOWT) _ _ _ _ _ _ (by omega) ((uh HOWN2).alloc _)
     have HB3:Hid (Below w.heap.size w w3):=((uh HB2).alloc hs2 _).trans hb3
     have hs3:w.heap.size+1<=w3.heap.size:=by have:=(uh HROW3).lt;omega
     clear hb3 HOWT HCT HOWN2 HROW2 HG HTK HB2
     have HLEN2:Hid ((d++[((q:Int),N,s,t)]).length=k+1):=by show _=_;rw[List.length_append,uh HD];rfl
     by_cases h32:k < 32
     ·have HM1:Hid (min k 32=k):=Nat.min_eq_left (by omega)
      have HM2:Hid (min (k+1) 32=k+1):=Nat.min_eq_left (by omega)
      have HT1:Hid (d.take 32=d):=List.take_of_length_le (by rw[uh HD];omega)
      have HT2:Hid ((d++[((q:Int),N,s,t)]).take 32=d++[((q:Int),N,s,t)]):=List.take_of_length_le (by rw[uh HLEN2];omega)
      rw[uh HM1,uh HT1]at HOWN3
      go_wp2_with (first
       | (at_builtin;refine wpList_append_own _ rfl _ _ 23 rfl (w.heap.size+1) 109 i0 _ 4 48 Tryz.underlying23 hi hz0 hz1 hz2 rfl (by decide) _ _ _ rfl ((uh HOWN3).alloc _) ⟨w3.heap.size,0,none⟩ 1 1 [.int .i64 (q:Int),.int .i64 N,.string s,.string t] rfl rfl (four_cell _ _ _ _ _ _) (four_one _ _ _ _) (by unfold maxLen;omega) (by omega) (by simp;omega) ?_)
       | go_in)
      intro v4 w4 hown4 hgrow4 _
      have HB4:Hid (Below w.heap.size w w4):=((uh HB3).alloc (uh HB3).size _).grown hgrow4 (by simp;omega) (fun g hg=>by have:=((uh HOWN3).lt g hg).1;omega)
      have HROW4:Hid (RowAt w4 w.heap.size place (fun j=>sn (d++[((q:Int),N,s,t)]) j)):=row_grown ((uh HROW3).below (bal _ _)) hgrow4 (fun g hg=>by have:=((uh HOWN3).lt g hg).1;omega)
      have HOWN4:Hid (w4.ownsRow (w.heap.size+1) 109 4 v4 (min (k+1) 32) (pcs ((d++[((q:Int),N,s,t)]).take 32))):=by
       show World.ownsRow _ _ _ _ _ _ _
       rw[uh HM2,uh HT2,pcs_app]
       exact hown4
      clear hown4 hgrow4 HOWN3 HROW3 d0 d1 d2 d3
      by_cases hcz:cap2=z
      ·have hm1:m=cap2:=by omega
       have hm2:m=z:=by omega
       clear hcz
       subst hm1
       subst hm2
       have HBD:Hid (Byt w (.slice (some ⟨b,off,none⟩) 0 0) (rest.drop m)):=by
        show Byt _ _ _
        have:=(uh HYW).drop' m (Nat.le_refl _)
        rw[if_pos rfl,Nat.sub_self]at this
        exact this
       have HML:Hid ((rest.drop m).length=0):=by show _=_;rw[List.length_drop,uh HM];omega
       clear HYW HM
       go_wp2
       go_roundw
       case rel=>exact⟨_,_,_,_,k+1,0,rfl,rfl,by go_num,by omega,HLEN2,HML,HBD,HP2,HOK2,HROW4,HOWN4,uh HB4⟩
       case measure=>simp[lenOf];omega
      ·have HBD:Hid (Byt w (.slice (some ⟨b,off+z,none⟩) (m - z) (cap2 - z)) (rest.drop z)):=by
        show Byt _ _ _
        have:=(uh HYW).drop' z hg2
        rw[if_neg hcz]at this
        exact this
       have HML:Hid ((rest.drop z).length=m - z):=by show _=_;rw[List.length_drop,uh HM]
       clear HYW HM
       go_wp2
       go_roundw
       case rel=>exact⟨_,_,_,_,k+1,m - z,rfl,rfl,by go_num,by omega,HLEN2,HML,HBD,HP2,HOK2,HROW4,HOWN4,uh HB4⟩
       case measure=>simp[lenOf];omega
     ·have HM1:Hid (min k 32=min (k+1) 32):=by show _=_;omega
      have HT1:Hid (d.take 32=(d++[((q:Int),N,s,t)]).take 32):=by show _=_;rw[List.take_append_of_le_length (by rw[uh HD];omega)]
      rw[uh HM1,uh HT1]at HOWN3
      by_cases hcz:cap2=z
      ·have hm1:m=cap2:=by omega
       have hm2:m=z:=by omega
       clear hcz
       subst hm1
       subst hm2
       have HBD:Hid (Byt w (.slice (some ⟨b,off,none⟩) 0 0) (rest.drop m)):=by
        show Byt _ _ _
        have:=(uh HYW).drop' m (Nat.le_refl _)
        rw[if_pos rfl,Nat.sub_self]at this
        exact this
       have HML:Hid ((rest.drop m).length=0):=by show _=_;rw[List.length_drop,uh HM];omega
       clear HYW HM
       go_wp2
       go_roundw
       case rel=>exact⟨_,_,_,_,k+1,0,rfl,rfl,by go_num,by omega,HLEN2,HML,HBD,HP2,HOK2,HROW3,HOWN3,uh HB3⟩
       case measure=>simp[lenOf];omega
      ·have HBD:Hid (Byt w (.slice (some ⟨b,off+z,none⟩) (m - z) (cap2 - z)) (rest.drop z)):=by
        show Byt _ _ _
        have:=(uh HYW).drop' z hg2
        rw[if_neg hcz]at this
        exact this
       have HML:Hid ((rest.drop z).length=m - z):=by show _=_;rw[List.length_drop,uh HM]
       clear HYW HM
       go_wp2
       go_roundw
       case rel=>exact⟨_,_,_,_,k+1,m - z,rfl,rfl,by go_num,by omega,HLEN2,HML,HBD,HP2,HOK2,HROW3,HOWN3,uh HB3⟩
       case measure=>simp[lenOf];omega
end Go.Proofs.YtpheelbbpiieiaaGreatDoor
