/- Helpers of the proof. -/
import Derived.Test.YtmpijpjlbhfccaaGreatDoorZC43
import Derived.Test.YtmpijpjlbhfccaaGreatDoorZC47
import Derived.Deep.CutRange
import Derived.Test.YtmpijpjlbhfccaaGreatDoorZC17
set_option maxHeartbeats 20000000
namespace Go.Proofs.YtmpijpjlbhfccaaGreatDoor.K.W
open Go.RowKit
open Go.Proofs.YtmpijpjlbhfccaaGreatDoor.K
set_option maxRecDepth 100000
structure KindOk (k:Int):Prop where
 enc:∀ {w:World} {q:Pkv} {P:Pa},RPk w q P->Big P->P.kind=k->Calls Tryz.prog 7 #[q.val] w (EncQ (fkA P).1 (fkA P).2 q.kind (eb P) w)
 ebk:∀ {P:Pa},P.kind=k->(fkA P).2=true->eb P=if mayA P then some (gbd P) else none
 may:∀ {w:World} {q:Pkv} {P:Pa},RPk w q P->Mid P->P.kind=k->Calls Tryz.prog 27 #[q.val] w fun e w'=>e=.returned (.bool (mayA P))/\Below w.heap.size w w'
 gb:∀ {w:World} {q:Pkv} {P:Pa},RPk w q P->mayA P=true->P.payload.size<=1073741824->P.kind=k->Calls Tryz.prog 28 #[q.val] w (GPut (gbd P) w)
 pk:∀ b:Int,0<=b->b<=255->b/16=k->bok b=true->PkAt b
 bd:∀ b:Int,0<=b->b<=255->b/16=k->bok b=true->BdAt b
 back:∀ {P:Pa} {l:List Int},P.kind=k->eb P=some l->(fkA P).2=true->Rng l->packet? (bpa (fb P.kind (fkA P).1)) l=some (P,[])
theorem enc_pageK {k:Int} (H:KindOk k) {w:World} {q:Pkv} {P:Pa} (hR:RPk w q P) (hB:Big P) (hk:P.kind=k):Calls Tryz.prog 7 #[q.val] w (EncR P w):=by
 have hE:=H.enc hR hB hk
 rw[hR.sc.1]at hE
 refine hE.mono fun e w' h=>⟨h.1,?_⟩
 by_cases hm:mayA P=true
 ·have hf:=fk_of hm
  have he:eb P=some (gbd P):=by rw[H.ebk hk hf,if_pos hm]
  have hb:ebytes P.kind (fkA P).1 (gbd P)=pby P:=ebytes_eq hm
  rcases h.2 with⟨h1|h1,-⟩|⟨-,l,h1,h2,h3⟩|⟨-,l,h1,h2,v,h3,h4,h5⟩
  ·rw[hf]at h1;cases h1
  ·rw[he]at h1;cases h1
  ·rw[he]at h1
   cases h1
   rw[hb]at h2
   exact .inr (.inl ⟨hm,h2,h3⟩)
  ·rw[he]at h1
   cases h1
   rw[hb]at h2 h4 h5
   exact .inr (.inr ⟨hm,h2,v,h3,⟨uh h4,uh h5⟩⟩)
 ·have hm:mayA P=false:=Bool.not_eq_true _ ▸ hm
  rcases h.2 with⟨-,h1⟩|⟨hf,l,h1,-⟩|⟨hf,l,h1,-⟩
  ·exact .inl ⟨hm,h1⟩
  ·rw[H.ebk hk hf,hm]at h1;cases h1
  ·rw[H.ebk hk hf,hm]at h1;cases h1
theorem gencK {k:Int} (H:KindOk k) {w:World} {q:Pkv} {P:Pa} (hR:RPk w q P) (hM:Mid P) (hpy:P.payload.size<=1073741824) (hk:P.kind=k):Calls Tryz.prog 8 #[q.val] w (GEnc P.kind (gfl P.kind P.dup P.qos P.retain) (mayA P) (gbd P) w):=by
 obtain⟨h0,h1,h2,h3,-⟩:=hR.sc
 by_cases hm:mayA P=true
 ·rw[hm]
  have k:=genc_core q true (gbd P) w (gbd_len hm hpy) (fun W hW=>by have:=H.may (hR.below hW) hM hk;rw[hm]at this;exact this) (fun _=>by rw[h0,h2];exact mayA_kind hm) (fun _ W hW=>H.gb (hR.below hW) hm hpy hk)
  rw[h0,h1,h2,h3]at k
  exact k
 ·have hm:mayA P=false:=Bool.not_eq_true _ ▸ hm
  rw[hm]
  have k:=genc_core q false [] w (by simp) (fun W hW=>by have:=H.may (hR.below hW) hM hk;rw[hm]at this;exact this) (fun e=>by cases e) (fun e=>by cases e)
  refine k.mono fun e w' h=>⟨h.1,.inl ?_⟩
  rcases h.2 with h|⟨h,-⟩|⟨h,-⟩
  ·exact h
  ·cases h
  ·cases h
theorem enc_uniK {k:Int} (H:KindOk k) {w:World} {q:Pkv} {P:Pa} (hR:RPk w q P) (hB:Big P) (hk:P.kind=k):Calls Tryz.prog 7 #[q.val] w fun e w'=>∃ v E,e=.returned (.tuple #[v,E])/\Hid (Byt w' v (eB P))/\Hid (ErrX w' E (eN P))/\Below w.heap.size w w':=by
 refine (enc_pageK H hR hB hk).mono ?_
 rintro e w' ⟨hb,⟨hm,x,rfl,hE⟩|⟨hm,hl,x,rfl,hE⟩|⟨hm,hl,v,rfl,hv⟩⟩
 ·have e1:eN P=1:=by unfold eN;rw[if_neg (by rw[hm];decide)]
  have e2:eB P=[]:=by unfold eB;rw[if_neg (by rw[hm];simp)]
  refine⟨_,_,rfl,?_,?_,hb⟩
  ·rw[e2];exact nil_byt _
  ·rw[e1];exact ErP.xx (uh hE)
 ·have e1:eN P=2:=by unfold eN;rw[if_pos hm,if_neg (by omega)]
  have e2:eB P=[]:=by unfold eB;rw[if_neg (by omega)]
  refine⟨_,_,rfl,?_,?_,hb⟩
  ·rw[e2];exact nil_byt _
  ·rw[e1];exact ErP.xx (uh hE)
 ·have e1:eN P=0:=by unfold eN;rw[if_pos hm,if_pos hl]
  have e2:eB P=pby P:=by unfold eB;rw[if_pos ⟨hm,hl⟩]
  refine⟨_,_,rfl,?_,?_,hb⟩
  ·rw[e2];exact (uh hv).byt
  ·rw[e1];exact .inl ⟨rfl,rfl⟩
theorem genc_uniK {k:Int} (H:KindOk k) {w:World} {q:Pkv} {P:Pa} (hR:RPk w q P) (hM:Mid P) (hpy:P.payload.size<=1073741824) (hk:P.kind=k):Calls Tryz.prog 8 #[q.val] w fun e w'=>∃ v,e=.returned (.tuple #[v,.int .i64 (eN P)])/\Hid (Byt w' v (eB P))/\Below w.heap.size w w':=by
 refine (gencK H hR hM hpy hk).mono ?_
 rintro e w' ⟨hb,⟨hm,rfl⟩|⟨hm,hl,rfl⟩|⟨hm,hl,v,rfl,hv⟩⟩
 ·have e1:eN P=1:=by unfold eN;rw[if_neg (by rw[hm];decide)]
  have e2:eB P=[]:=by unfold eB;rw[if_neg (by rw[hm];simp)]
  refine⟨_,by rw[e1],?_,hb⟩
  rw[e2];exact nil_byt _
 ·have e1:eN P=2:=by unfold eN pby;rw[if_pos hm,if_neg (by omega)]
  have e2:eB P=[]:=by unfold eB pby;rw[if_neg (by omega)]
  refine⟨_,by rw[e1],?_,hb⟩
  rw[e2];exact nil_byt _
 ·have e1:eN P=0:=by unfold eN pby;rw[if_pos hm,if_pos hl]
  have e2:eB P=pby P:=by unfold eB pby;rw[if_pos ⟨hm,hl⟩]
  refine⟨_,by rw[e1],?_,hb⟩
  rw[e2];exact (uh hv).byt
theorem first_any {P:Pa} (hf:(fkA P).2=true):fb P.kind (fkA P).1/16=P.kind/\bok (fb P.kind (fkA P).1)=true/\(0<=fb P.kind (fkA P).1/\fb P.kind (fkA P).1<=255):=by
 by_cases h3:P.kind=3
 ·have e:fkA P=(pfl P.dup P.qos P.retain,pok P.dup P.qos):=by unfold fkA;rw[if_pos h3]
  rw[e]at hf |-
  dsimp only at hf |-
  rw[h3]
  obtain⟨b1,b2,b3,b4,b5,b6⟩:=B.first_pub P.dup P.retain P.qos hf
  exact⟨b1,b5,b6⟩
 ·have hkr:1<=P.kind/\P.kind<=15:=by
   unfold fkA at hf
   rw[if_neg h3]at hf
   by_cases h6:P.kind=6\/P.kind=8\/P.kind=10
   ·omega
   ·rw[if_neg h6]at hf
    simp only[Bool.and_eq_true,decide_eq_true_eq]at hf
    exact hf
  have e:(fkA P).1=(if P.kind=6\/P.kind=8\/P.kind=10 then (2:Int) else 0):=by
   unfold fkA
   rw[if_neg h3]
   by_cases h6:P.kind=6\/P.kind=8\/P.kind=10
   ·rw[if_pos h6,if_pos h6]
   ·rw[if_neg h6,if_neg h6]
  exact B.first_oth P.kind hkr.1 hkr.2 h3 _ e
theorem bpa_oth {P:Pa} (hf:(fkA P).2=true) (h3:P.kind≠3):bpa (fb P.kind (fkA P).1)=pa0 P.kind false 0 false:=by
 have b1:=(first_any hf).1
 unfold bpa
 rw[if_neg (by rw[b1];exact h3),b1]
theorem pkat_oth {b:Int} (h3:b/16≠3):bpk b=pk0 (b/16) false 0 false/\bpa b=pa0 (b/16) false 0 false:=by
 unfold bpk bpa
 rw[if_neg h3,if_neg h3]
 exact⟨rfl,rfl⟩
theorem dec_backK {k:Int} (H:KindOk k) {P:Pa} (hk:P.kind=k) (hm:mayA P=true) (hr:Rng (pby P)) (hl:(pby P).length<=65536):dnum (pby P)=0/\dN (pby P)=(pby P).length/\dP (pby P)=P/\(pby P).getD 0 0/16=k:=by
 have hf:=fk_of hm
 have he:eb P=some (gbd P):=by rw[H.ebk hk hf,if_pos hm]
 have hrg:Rng (gbd P):=by unfold pby gbytes at hr;exact B.rng_r hr
 have h1:=H.back hk he hf hrg
 obtain⟨b1,b2,b3⟩:=first_any hf
 have hpb:pby P=([fb P.kind (fkA P).1]++V.put ((gbd P).length:Int))++gbd P:=by rw[fb_eq hm];rfl
 have hlen:(pby P).length=1+(V.put ((gbd P).length:Int)).length+(gbd P).length:=by
  rw[hpb,List.length_append,List.length_append]
  rfl
 have hmm:meas (pby P)=(1+(V.put ((gbd P).length:Int)).length,1+(V.put ((gbd P).length:Int)).length+(gbd P).length,0):=by
  have k:=B.meas_back (fb P.kind (fkA P).1) (gbd P) [] (by omega)
  rw[List.append_nil]at k
  rw[hpb]
  exact k
 have h0:(pby P).getD 0 0=fb P.kind (fkA P).1:=by rw[hpb];rfl
 have hd:dbody (pby P)=some (P,[]):=by
  unfold dbody
  rw[hmm,h0]
  have e:((pby P).drop (1+(V.put ((gbd P).length:Int)).length)).take (1+(V.put ((gbd P).length:Int)).length+(gbd P).length-(1+(V.put ((gbd P).length:Int)).length))=gbd P:=by
   rw[hpb,List.drop_left' (by rw[List.length_append];rfl),Nat.add_sub_cancel_left,List.take_length]
  dsimp only
  rw[e]
  exact h1
 have hn:dnum (pby P)=0:=by
  unfold dnum
  rw[if_neg (by intro e;rw[e]at hlen;simp at hlen;omega),h0,if_neg (by rw[b2];decide),hmm,if_neg (by simp),hd]
  rfl
 refine⟨hn,?_,dP_good hn hd,by rw[h0,b1,hk]⟩
 unfold dN
 rw[if_pos hn,hmm,hlen]
theorem dec_uniK {k:Int} (H:KindOk k) (v:Value) (l:List Int) (w:World) (h:Byt w v l) (h0:l.getD 0 0/16=k):Calls Tryz.prog 11 #[v] w fun e w'=>∃ (q:Pkv) (E:Value),e=.returned (.tuple #[q.val,.int .i64 (dN l:Nat),E])/\Hid (Mean w' w.heap.size q (dP l))/\Hid (ErrX w' E (dnum l))/\Below w.heap.size w w':=by
 refine (decode_k v l w h (fun hb=>H.pk _ (h.range 0).1 (h.range 0).2 h0 hb)).mono ?_
 rintro e w' ⟨q,n,E,rfl,h1|h1,hb⟩
 ·obtain⟨h0,rfl,rfl,hE⟩:=h1
  obtain⟨x,d,rfl,hd,hE⟩:=uh hE
  exact⟨pkz,_,by unfold dN;rw[if_neg h0],by rw[dP_bad h0];exact mean_z _ _,.inr ⟨d,hd,hE⟩,hb⟩
 ·obtain⟨h0,rfl,rfl,P,r,hd,hm⟩:=h1
  exact⟨q,_,by unfold dN;rw[if_pos h0],by rw[dP_good h0 hd];exact hm,.inl ⟨h0,rfl⟩,hb⟩
theorem pdec_uniK {k:Int} (H:KindOk k) (v:Value) (l:List Int) (w:World) (h:Byt w v l) (h0:l.getD 0 0/16=k):Calls Tryz.prog 14 #[v,.int .i64 65536] w fun e w'=>∃ q:Pkv,e=.returned (.tuple #[q.val,.int .i64 (dN l:Nat),.int .i64 (dnum l)])/\Hid (Mean w' w.heap.size q (dP l))/\Below w.heap.size w w':=by
 refine (pdec_k v l 65536 w h (by omega) (fun hb=>H.bd _ (h.range 0).1 (h.range 0).2 h0 hb)).mono ?_
 rintro e w' ⟨q,n,rfl,h1,hb⟩
 rw[pnum_is]at h1 |-
 rcases h1 with⟨h0,rfl,rfl⟩|⟨h0,rfl,P,r,hd,hm⟩
 ·exact⟨pkz,by unfold dN;rw[if_neg h0],by rw[dP_bad h0];exact mean_z _ _,hb⟩
 ·exact⟨q,by unfold dN;rw[if_pos h0],by rw[dP_good h0 hd];exact hm,hb⟩
theorem cp_any {P:Pa} (h:Ok P):CpOk P :=
 ⟨by have:=h.props;omega,⟨by have:=h.wills;omega,fun k hk=>by have:=h.wprops k hk;omega⟩,by have:=h.ub.user.1;omega,by have:=h.ub.pass.1;omega,by have:=h.subs;omega,by have:=h.ub.filters.1;omega,by have:=h.ub.codes;omega⟩
theorem xor_hi (b m:Int) (h0:0<=b) (h1:b<=255) (hm:0<=m/\m<=15):bits .xor .u8 b m/16=b/16:=by
 have h:∀ m∈[(0:Int),1,2,3,4,5,6,7,8,9,10,11,12,13,14,15],bits .xor .u8 b m/16=b/16:=byte_cases (P:=fun b=>∀ m∈[(0:Int),1,2,3,4,5,6,7,8,9,10,11,12,13,14,15],bits .xor .u8 b m/16=b/16) (by decide +kernel) b h0 h1
 refine h m ?_
 obtain⟨h2,h3⟩:=hm
 have:m=0\/m=1\/m=2\/m=3\/m=4\/m=5\/m=6\/m=7\/m=8\/m=9\/m=10\/m=11\/m=12\/m=13\/m=14\/m=15:=by omega
 rcases this with rfl|rfl|rfl|rfl|rfl|rfl|rfl|rfl|rfl|rfl|rfl|rfl|rfl|rfl|rfl|rfl<;>simp
theorem set_first (l:List Int) (j:Nat) (m k:Int) (hr:∀ j,0<=l.getD j 0/\l.getD j 0<=255) (hj:j<l.length) (hm:j=0->0<=m/\m<=15) (h:l.getD 0 0/16=k):(l.set j (bits .xor .u8 (l.getD j 0) m)).getD 0 0/16=k:=by
 cases j with
 | zero =>
  cases l with
  | nil=>exact absurd hj (by simp)
  | cons a t =>
   have e:=xor_hi a m (hr 0).1 (hr 0).2 (hm rfl)
   simpa [List.set] using e.trans h
 | succ j =>
  cases l with
  | nil=>exact absurd hj (by simp)
  | cons a t=>simpa [List.set] using h
end Go.Proofs.YtmpijpjlbhfccaaGreatDoor.K.W
namespace Go.Proofs.YtmpijpjlbhfccaaGreatDoor.K.W
open Go.RowKit
open Go.Proofs.YtmpijpjlbhfccaaGreatDoor.K
set_option maxRecDepth 100000
theorem range_bel {w w':World} {b o:Nat} {cs:List Value} (h:w.rangeAt b o cs) (hb:Below w.heap.size w w'):w'.rangeAt b o cs:=fun j v hj=>(hb.cell (p:=⟨b,o+j,none⟩) (cell_lt (h j v hj))).trans (h j v hj)
def AskB (w:World) (b p:Nat) (q:Pkv) (P:Pa) (vb:Value) (z:List Int):Prop:=w.rangeAt b p q.cells/\RPk w q P/\Ok P/\w.cell? ⟨b,p+19,none⟩=some vb/\Byt w vb z
def Go5 (c:Bool) (kk:Int) (P:Pa):Prop:=c=false->P.kind=kk/\Sm P
theorem xor_range (x m:Int):0<=bits .xor .u8 x m/\bits .xor .u8 x m<=255:=bits_within .xor .u8 x m
theorem set_range (l:List Int) (m:Nat) (y:Int) (hr:Rng l) (hy:0<=y/\y<=255):∀ j,0<=(l.set m y).getD j 0/\(l.set m y).getD j 0<=255:=fun j=>by
 rw[List.getD_eq_getElem?_getD,List.getElem?_set]
 by_cases e:m=j
 ·rw[if_pos e]
  by_cases hl:m<l.length
  ·rw[if_pos hl];exact hy
  ·rw[if_neg hl];exact⟨Int.le_refl _,by decide⟩
 ·rw[if_neg e,<- List.getD_eq_getElem?_getD]
  exact hr j
theorem kind_walk (kk:Int) (H:KindOk kk) (b off len cap:Nat) (qs:Nat->Pkv) (Pp:Nat->Pa) (vs:Nat->Value) (zs:Nat->List Int) (w:World) (_hlen:len<=maxLen) (hg:Laid w) (hc:∀ k,k<len->AskB w b (off+k*20) (qs k) (Pp k) (vs k) (zs k)) :
  Calls Tryz.prog 4 #[.slice (some ⟨b,off,none⟩) len cap,.int .i64 kk] w fun e w'=>e=.returned (.bool true)/\Below w.heap.size w w':=by
 unfold maxLen at _hlen
 have HC:=zh hc
 have HG:=zh hg
 have HH:=zh H
 clear hc hg H
 go_enter Tryz.func4,Tryz.ntmps4
 go_wp2
 go_loopw [5] (fun i wr=>∃ k:Nat,k<=len/\k<=10/\i=.int .i64 k/\Below w.heap.size w wr) (fun i _=>10-(intOf i).toNat)
 case atStart=>exact⟨0,Nat.zero_le _,by omega,rfl,Below.refl _ _⟩
 case round =>
  obtain⟨k,hk,hk10,rfl,hbel⟩:=hrel
  by_cases hlt:k<len/\k<10
  ·obtain⟨hlt,hlt10⟩:=hlt
   obtain⟨hra,hrp,hok,hcb,hby⟩:=(uh HC) k hlt
   obtain⟨ao0,vc0,hv0,-⟩:=hby.form
   generalize qs k=q at hra hrp
   generalize Pp k=P at hrp hok
   generalize hz0:(zs k).length=n0 at hv0
   generalize vs k=vv at hcb hv0
   subst hv0
   have hsz:=hbel.size
   have HD:Hid (∀ W,Below wr.heap.size wr W->W.rangeAt b (off+k*20) q.cells/\RPk W q P/\Laid W/\Below w.heap.size w W/\W.cell? ⟨b,off+k*20+19,none⟩=some (.slice ao0 n0 vc0)):=fun W hW=>by
    have hb2:=hbel.trans (hW.mono hsz)
    exact⟨range_bel hra hb2,hrp.below hb2,(uh HG).below hb2 (uh HG).pos,hb2,(hb2.cell (p:=⟨b,off+k*20+19,none⟩) (cell_lt hcb)).trans hcb⟩
   have HOK:=zh hok
   have HBEL:=zh hbel
   clear hra hrp hok hbel hcb hby hz0
   obtain⟨wo,hwo⟩:∃ wo,wo=wr:=⟨wr,rfl⟩
   subst hwo
   go_upto_region 4 with fail
   iterate 13 go_step
   refine wpList_load_mid rfl 31 _ rfl b (off+k*20) rfl q.cells _ ((uh HD) _ (Below.refl _ _)).1 Tryz.underlying31 rfl packet_size ?_
   simp only[sp]
   go_wp2_with fail
   refine (cpp_any q P wo ((uh HD) _ (Below.refl _ _)).2.1 (cp_any (uh HOK))).mono ?_
   rintro e w3 ⟨q2,rfl,hR2,hb3⟩
   have HC3:Hid (Below wo.heap.size wo w3):=hb3
   have HR3:=hR2
   clear hb3 hR2
   dsimp only
   go_step
   refine Go.Proofs.YtmpijpjlbhfccaaGreatDoor.wpList_value rfl (mpacket_alloc _ _ _ _ _ _) ?_
   simp only[sp]
   refine Go.Proofs.YtmpijpjlbhfccaaGreatDoor.wpList_skip rfl (mpacket_store _ _ _ _ _ _ _ q2 _ rfl rfl) ?_
   simp only[Act.put]
   have HA4:Hid (Below w3.heap.size w3 (w3.alloc (.cells q2.cells.toArray 31))):=bal _ _
   have HP4:=zh (pk_new w3 q2)
   obtain⟨B4,hB4⟩:∃ B4,B4=w3.heap.size:=⟨_,rfl⟩
   rw[<- hB4]at HP4 |-
   clear hB4
   generalize w3.alloc (.cells q2.cells.toArray 31)=w4 at HA4 HP4 |-
   have HR4:Hid (RPk w4 q2 P):=(uh HR3).below (uh HA4)
   have HC4:Hid (Below wo.heap.size wo w4):=bnk (uh HC3) (uh HA4)
   clear HR3 HC3 HA4
   have c4:w4.cell? ⟨B4,0,none⟩=some (.int .i64 P.kind):=by
    have e:=((uh HP4) 0 (by omega)).1
    have e2:=(uh HR4).sc.1
    rw[<- e2]
    exact e
   go_upto_region 5 with fail
   go_cut [54] from 22 to 155 (fun s54 wx=>∃ c:Bool,s54=.bool c/\Hid (Go5 c kk P)/\Hid (Below w4.heap.size w4 wx))
   case first =>
    by_cases hkk:P.kind=kk
    ·have hkb:(P.kind != kk)=false:=by simp[hkk]
     iterate 16 go_step
     refine mpList_wanted (by rfl) fun K hK=>wp_load_mid 31 _ rfl B4 0 rfl q2.cells _ (uh HP4).range Tryz.underlying31 rfl packet_size (hK _ _ ?_)
     clear hK K
     simp only[sp]
     go_wp2_with fail
     refine (hv_any q2 P w4 (uh HR4) (uh HOK).ub).mono ?_
     rintro e w5 ⟨bo,rfl,hsm,hb5⟩
     have d5:=((uh HD) w5 (bnk (uh HC4) hb5)).2.2.2.2
     cases bo
     ·by_cases h3:3000<n0
      ·go_wp2
       go_meet
       case rel=>exact⟨_,rfl,(fun h=>by first|cases h|(simp at h;omega)),hb5⟩
      ·go_wp2
       go_meet
       case rel=>exact⟨_,rfl,(fun _=>⟨hkk,(uh hsm) rfl⟩),hb5⟩
     ·go_wp2
      go_meet
      case rel=>exact⟨_,rfl,(fun h=>by cases h),hb5⟩
    ·have hkb:(P.kind != kk)=true:=by simp[hkk]
     go_wp2
     go_meet
     case rel=>exact⟨_,rfl,(fun h=>by cases h),Below.refl _ _⟩
   case rest =>
   obtain⟨c,rfl,hg5,HB5⟩:=hcut
   have HC5:Hid (Below wo.heap.size wo wc):=bnk (uh HC4) (uh HB5)
   cases c
   rotate_left
   ·have HBb:=zh ((uh HD) _ (uh HC5)).2.2.2.1
    go_wp2
    go_roundw
    case rel=>exact⟨k+1,by omega,by omega,by go_num,uh HBb⟩
    case measure=>simp[intOf];omega
   obtain⟨hkk,hsm⟩:=(uh hg5) rfl
   have HSM:=zh hsm
   have HKK:=zh hkk
   have HR5:Hid (RPk wc q2 P):=(uh HR4).below (uh HB5)
   have HP5:=zh ((uh HP4).below (uh HB5))
   obtain⟨w5,hw5⟩:∃ w5,w5=wc:=⟨_,rfl⟩
   subst hw5
   clear hg5 hsm hkk HR4 HP4 HB5 HC4 c4
   go_upto_region 6 with fail
   go_step
   refine wpList_load_mid rfl 31 _ rfl B4 0 rfl q2.cells _ (uh HP5).range Tryz.underlying31 rfl packet_size ?_
   simp only[sp]
   go_wp2_with fail
   refine (enc_uniK (uh HH) (uh HR5) (big_of (uh HOK) (uh HSM)) (uh HKK)).mono ?_
   rintro e w6 ⟨v6,E6,rfl,hv6,hE6,hb6⟩
   have HR6:Hid (RPk w6 q2 P):=(uh HR5).below hb6
   have HP6:=zh ((uh HP5).below hb6)
   have HC6:Hid (Below wo.heap.size wo w6):=bnk (uh HC5) hb6
   clear HR5 HP5 HC5 hb6
   obtain⟨ao6,vc6,hf6,-⟩:=(uh hv6).form
   have HEN:Hid (eN P=0->mayA P=true/\(pby P).length<=65536/\eB P=pby P):=fun h=>by
    unfold eN at h
    by_cases hm:mayA P=true
    ·rw[if_pos hm]at h
     by_cases hl:(pby P).length<=65536
     ·exact⟨hm,hl,by unfold eB;rw[if_pos ⟨hm,hl⟩]⟩
     ·rw[if_neg hl]at h;cases h
    ·rw[if_neg hm]at h;cases h
   generalize hmE:eN P=mm at hE6 HEN
   have HME:=zh hmE
   clear hmE
   generalize hlE:eB P=lb at hv6 hf6 HEN
   have HLE:=zh hlE
   clear hlE
   generalize hnE:lb.length=nb at hf6
   have HNE:=zh hnE
   subst hf6
   clear hnE
   go_upto_region 7 with fail
   go_step
   refine wpList_load_mid rfl 31 _ rfl B4 0 rfl q2.cells _ (uh HP6).range Tryz.underlying31 rfl packet_size ?_
   simp only[sp]
   have HGE:=zh (genc_uniK (uh HH) (uh HR6) (mid_of (uh HOK) (uh HSM)) (by have:=(uh HOK).ub.texts;omega) (uh HKK))
   rw[uh HME,uh HLE]at HGE
   go_wp2_with fail
   refine (uh HGE).mono ?_
   rintro e w7 ⟨v7,rfl,hv7,hb7⟩
   have HV7:Hid (Byt w7 (.slice ao6 nb vc6) lb):=(uh hv6).below hb7
   have HE7:Hid (ErrX w7 E6 mm):=(uh hE6).below hb7
   have HR7:Hid (RPk w7 q2 P):=(uh HR6).below hb7
   have HP7:=zh ((uh HP6).below hb7)
   have HC7:Hid (Below wo.heap.size wo w7):=bnk (uh HC6) hb7
   obtain⟨ao7,vc7,hf7,-⟩:=(uh hv7).form
   rw[uh HNE]at hf7
   subst hf7
   have HW7:=hv7
   clear hb7 hv6 hE6 hv7 HR6 HP6 HC6 HGE
   have hmm:(mm != mm)=false:=by simp
   go_upto_region 8 with fail
   go_wp2_with fail
   refine (num4 E6 mm w7 ((uh HD) _ (uh HC7)).2.2.1 (uh HE7)).mono ?_
   rintro e w8 ⟨rfl,hb8⟩
   have HB8:Hid (Below w7.heap.size w7 w8):=hb8
   clear hb8
   go_wp2_with fail
   refine (eq_any _ _ lb lb w8 ((uh HV7).below (uh HB8)) ((uh HW7).below (uh HB8))).mono ?_
   rintro e w9 ⟨rfl,k9,hw9⟩
   rw[decide_eq_true (rfl:lb=lb)]
   have HB9:Hid (Below w7.heap.size w7 w9):=bnk (uh HB8) (by rw[hw9];exact below_drewN (Below.refl _ _) k9)
   have HC9:Hid (Below wo.heap.size wo w9):=bnk (uh HC7) (uh HB9)
   have HV9:Hid (Byt w9 (.slice ao6 nb vc6) lb):=(uh HV7).below (uh HB9)
   have HR9:Hid (RPk w9 q2 P):=(uh HR7).below (uh HB9)
   have HP9:=zh ((uh HP7).below (uh HB9))
   clear hw9 HB8 HB9 HV7 HW7 HE7 HR7 HP7 HC7 hmm
   go_upto_region 10 with fail
   go_cut [81] from 22 to 155 (fun s81 wx=>∃ c:Bool,s81=.bool c/\Hid (c=false->mm=0/\nb<=3000)/\wx=w9)
   case first =>
    by_cases hm0:mm=0
    ·have hmb:(mm != 0)=false:=by simp[hm0]
     by_cases h3:3000<nb
     ·go_wp2
      go_meet
      case rel=>exact⟨_,rfl,(fun h=>by first|cases h|(simp at h;omega)),rfl⟩
     ·go_wp2
      go_meet
      case rel=>exact⟨_,rfl,(fun _=>⟨hm0,by omega⟩),rfl⟩
    ·have hmb:(mm != 0)=true:=by simp[hm0]
     go_wp2
     go_meet
     case rel=>exact⟨_,rfl,(fun h=>by cases h),rfl⟩
   case rest =>
   obtain⟨c,rfl,hg10,hwc⟩:=hcut
   obtain rfl:wc=w9:=hwc
   obtain⟨w9,hw9⟩:∃ w9,w9=wc:=⟨_,rfl⟩
   subst hw9
   cases c
   rotate_left
   ·have HBb:=zh ((uh HD) _ (uh HC9)).2.2.2.1
    go_wp2
    go_roundw
    case rel=>exact⟨k+1,by omega,by omega,by go_num,uh HBb⟩
    case measure=>simp[intOf];omega
   obtain⟨hm0,hnb⟩:=(uh hg10) rfl
   obtain⟨hmay,hpl,hpb⟩:=(uh HEN) hm0
   have hrg:Rng lb:=(uh HV9).range
   have hbk:=dec_backK (uh HH) (uh HKK) hmay (by rw[<- hpb];exact hrg) hpl
   rw[<- hpb,uh HNE]at hbk
   obtain⟨hd0,hd1,hd2,hd3⟩:=hbk
   have HLT:=zh (dP_lts lb)
   rw[hd2]at HLT
   have HDU:=zh (dec_uniK (uh HH) (.slice ao6 nb vc6) lb w9 (uh HV9) hd3)
   rw[hd0,hd1,hd2]at HDU
   have HF:=zh hd3
   have HRG:=zh hrg
   clear hg10 hm0 HEN hmay hpl hpb hrg hd0 hd1 hd2 hd3 HME HLE
   go_upto_region 11 with fail
   go_wp2_with fail
   refine (uh HDU).mono ?_
   rintro e w10 ⟨q3,E3,rfl,hm10,hE10,hb10⟩
   have HM10:=hm10
   have HE10:=hE10
   have HB10:=zh hb10
   clear hm10 hE10 hb10 HDU
   dsimp only
   iterate 13 go_step
   refine Go.Proofs.YtmpijpjlbhfccaaGreatDoor.wpList_value rfl (mpacket_alloc _ _ _ _ _ _) ?_
   simp only[sp]
   refine Go.Proofs.YtmpijpjlbhfccaaGreatDoor.wpList_skip rfl (mpacket_store _ _ _ _ _ _ _ q3 _ rfl rfl) ?_
   simp only[Act.put]
   have HA11:Hid (Below w10.heap.size w10 (w10.alloc (.cells q3.cells.toArray 31))):=bal _ _
   have HQ11:=zh (pk_new w10 q3)
   obtain⟨B5,hB5⟩:∃ B5,B5=w10.heap.size:=⟨_,rfl⟩
   rw[<- hB5]at HQ11 |-
   clear hB5
   generalize w10.alloc (.cells q3.cells.toArray 31)=w11 at HA11 HQ11 |-
   have HB11:Hid (Below w9.heap.size w9 w11):=bnk (uh HB10) (uh HA11)
   have HM11:Hid (Mean w11 w9.heap.size q3 P):=(uh HM10).bel (uh HA11)
   have HE11:Hid (ErrX w11 E3 0):=(uh HE10).below (uh HA11)
   have HC11:Hid (Below wo.heap.size wo w11):=bnk (uh HC9) (uh HB11)
   clear HM10 HE10 HB10 HA11
   go_upto_region 12 with fail
   go_wp2_with fail
   refine (num4 E3 0 w11 ((uh HD) _ (uh HC11)).2.2.1 (uh HE11)).mono ?_
   rintro e w12 ⟨rfl,hb12⟩
   have HB12:Hid (Below w11.heap.size w11 w12):=hb12
   have HQ12:=zh ((uh HQ11).below hb12)
   have HP12:=zh ((uh HP9).below (bnk (uh HB11) hb12))
   clear hb12
   have hnn:((nb:Int) != (nb:Int))=false:=by simp
   dsimp only
   iterate 21 go_step
   refine mpList_wanted (by rfl) fun K hK=>wp_load_mid 31 _ rfl B5 0 rfl q3.cells _ (uh HQ12).range Tryz.underlying31 rfl packet_size (hK _ _ ?_)
   clear hK K
   simp only[sp]
   refine mpList_wanted (by rfl) fun K hK=>wp_load_mid 31 _ rfl B4 0 rfl q2.cells _ (uh HP12).range Tryz.underlying31 rfl packet_size (hK _ _ ?_)
   clear hK K
   simp only[sp]
   have HEQ:Hid (Calls Tryz.prog 12 #[.agg q3.cells.toArray,.agg q2.cells.toArray] w12 fun e w'=>e=.returned (.bool true)/\Below w12.heap.size w12 w'):=eqpk_same q3 q2 P w12 (((uh HM11).bel (uh HB12)).rpk (uh HLT)) ((uh HR9).below (bnk (uh HB11) (uh HB12))) (uh HLT).small
   go_wp2_with fail
   refine (uh HEQ).mono ?_
   rintro e w13 ⟨rfl,hb13⟩
   have HB13:Hid (Below w9.heap.size w9 w13):=bnk (bnk (uh HB11) (uh HB12)) hb13
   have HC13:Hid (Below wo.heap.size wo w13):=bnk (uh HC9) (uh HB13)
   have HV13:Hid (Byt w13 (.slice ao6 nb vc6) lb):=(uh HV9).below (uh HB13)
   clear hb13 HEQ HQ12 HP12 HB12 HQ11 HB11 HM11 HE11 HC11 HV9 HR9 HP9 HB13 HC9 HLT hnn
   go_wp2
   go_loopw [14] (fun i wr=>∃ m:Nat,m<=6102/\i=.int .i64 m/\Below w13.heap.size w13 wr) (fun i _=>nb-(intOf i).toNat)
   case atStart=>exact⟨0,by omega,rfl,Below.refl _ _⟩
   case round =>
    obtain⟨m,hm6,rfl,hbel⟩:=hrel
    have HBL:=zh hbel
    have HCr:Hid (Below wo.heap.size wo wr):=bnk (uh HC13) hbel
    have HVr:Hid (Byt wr (.slice ao6 nb vc6) lb):=(uh HV13).below hbel
    clear hbel
    by_cases hmn:m<nb
    ·go_upto_region 17 with fail
     go_wp2_with fail
     refine (copyb_any _ lb wr (uh HVr) (by rw[uh HNE];omega)).mono ?_
     rintro e w14 ⟨v14,rfl,HO14,-,hb14⟩
     rw[uh HNE]at HO14
     have HB14:=zh hb14
     clear hb14
     obtain⟨g,cc,rfl,hg14,hfz,hcc⟩:∃ g cc,v14=.slice (some ⟨g,0,none⟩) nb cc/\wr.heap.size<=g/\w14.frozen? ⟨g,m,none⟩=false/\nb<=cc:=by
      rcases (uh HO14).2 with⟨_,h0⟩|⟨g,cc,cur,e,hg,hh,hcc,_⟩
      ·omega
      ·exact⟨g,cc,e,hg,by simp[World.frozen?,hh],hcc⟩
     have hcx:w14.cell? ⟨g,m,none⟩=some (.int .u8 (lb.getD m 0)):=by
      have hl:=uh HNE
      rw[(uh HO14).cellAt m (by simpa [hl] using hmn),List.getElem?_map,List.getElem?_eq_getElem (by omega),List.getD_eq_getElem?_getD,List.getElem?_eq_getElem (by omega)]
      rfl
     obtain⟨x,hx⟩:∃ x,lb.getD m 0=x:=⟨_,rfl⟩
     rw[hx]at hcx
     have HX:=zh hx
     clear hx
     go_upto_region 18 with fail
     go_upto_region 19 with fail
     obtain⟨mx,hmx⟩:∃ mx,mx=1+(k:Int)+(m:Int) % 7:=⟨_,rfl⟩
     rw[<- hmx]
     have hmr:m=0->0<=mx/\mx<=15:=fun e=>by
      subst e
      omega
     have hrx:0<=bits .xor .u8 x mx/\bits .xor .u8 x mx<=255:=xor_range x mx
     have hlen:lb.length=nb:=uh HNE
     have HF15:=zh (set_first lb m mx kk (uh HRG) (by omega) hmr (uh HF))
     rw[uh HX]at HF15
     generalize bits .xor .u8 x mx=y at hrx HF15 |-
     have hs:=((uh HO14).stored m (.int .u8 y)).1
     rw[<- List.map_set]at hs
     have HB15:Hid (Below wr.heap.size wr (w14.setCell ⟨g,m,none⟩ (.int .u8 y))):=(uh HB14).setCell (p:=⟨g,m,none⟩) hg14 _
     have hl15:(lb.set m y).length=nb:=by rw[List.length_set];exact hlen
     have HY15:Hid (Byt (w14.setCell ⟨g,m,none⟩ (.int .u8 y)) (.slice (some ⟨g,0,none⟩) nb cc) (lb.set m y)):=by
      show Byt _ _ _
      rw[<- hl15]at hs |-
      exact byt_of_owns hs (set_range lb m y (uh HRG) hrx)
     generalize lb.set m y=lc at HF15 HY15
     generalize w14.setCell ⟨g,m,none⟩ (.int .u8 y)=w15 at HB15 HY15 |-
     have HLT:=zh (dP_lts lc)
     have HDU:=zh (dec_uniK (uh HH) _ lc w15 (uh HY15) (uh HF15))
     clear hs hl15 hrx hmr hmx HX hcx hfz HO14 HB14 hlen hg14 hcc
     go_wp2_with fail
     refine (uh HDU).mono ?_
     rintro e w16 ⟨q4,E4,rfl,hm16,hE16,hb16⟩
     have HM16:=hm16
     have HE16:=hE16
     have HB16:Hid (Below wr.heap.size wr w16):=bnk (uh HB15) hb16
     have HY16:=zh ((uh HY15).below hb16)
     clear hm16 hE16 hb16 HDU HB15 HY15
     generalize hdp:dP lc=P4 at HM16 HLT
     have HPZ:=zh hdp
     clear hdp
     dsimp only
     iterate 13 go_step
     refine Go.Proofs.YtmpijpjlbhfccaaGreatDoor.wpList_value rfl (mpacket_alloc _ _ _ _ _ _) ?_
     simp only[sp]
     refine Go.Proofs.YtmpijpjlbhfccaaGreatDoor.wpList_skip rfl (mpacket_store _ _ _ _ _ _ _ q4 _ rfl rfl) ?_
     simp only[Act.put]
     have HA17:Hid (Below w16.heap.size w16 (w16.alloc (.cells q4.cells.toArray 31))):=bal _ _
     have HQ17:=zh (pk_new w16 q4)
     obtain⟨B6,hB6⟩:∃ B6,B6=w16.heap.size:=⟨_,rfl⟩
     rw[<- hB6]at HQ17 |-
     clear hB6
     generalize w16.alloc (.cells q4.cells.toArray 31)=w17 at HA17 HQ17 |-
     have HM17:Hid (Mean w17 w15.heap.size q4 P4):=(uh HM16).bel (uh HA17)
     have HE17:Hid (ErrX w17 E4 (dnum lc)):=(uh HE16).below (uh HA17)
     have HB17:Hid (Below wr.heap.size wr w17):=bnk (uh HB16) (uh HA17)
     have HY17:=zh ((uh HY16).below (uh HA17))
     clear HM16 HE16 HB16 HY16 HA17
     have HPU:=zh (pdec_uniK (uh HH) (.slice (some ⟨g,0,none⟩) nb cc) lc w17 (uh HY17) (uh HF15))
     rw[uh HPZ]at HPU
     generalize hdn:dN lc=nn at HPU |-
     generalize hdm:dnum lc=dm at HPU HE17
     clear hdn hdm
     go_wp2_with fail
     refine (uh HPU).mono ?_
     rintro e w18 ⟨q5,rfl,hm18,hb18⟩
     have HM18:Hid (Mean w18 w17.heap.size q5 P4):=hm18
     have HN18:Hid (Mean w18 w15.heap.size q4 P4):=(uh HM17).bel hb18
     have HE18:Hid (ErrX w18 E4 dm):=(uh HE17).below hb18
     have HQ18:=zh ((uh HQ17).below hb18)
     have HB18:Hid (Below wr.heap.size wr w18):=bnk (uh HB17) hb18
     clear hm18 hb18 HM17 HE17 HQ17 HB17 HY17 HPU HF15 HPZ
     dsimp only
     iterate 13 go_step
     refine Go.Proofs.YtmpijpjlbhfccaaGreatDoor.wpList_value rfl (mpacket_alloc _ _ _ _ _ _) ?_
     simp only[sp]
     refine Go.Proofs.YtmpijpjlbhfccaaGreatDoor.wpList_skip rfl (mpacket_store _ _ _ _ _ _ _ q5 _ rfl rfl) ?_
     simp only[Act.put]
     have HA19:Hid (Below w18.heap.size w18 (w18.alloc (.cells q5.cells.toArray 31))):=bal _ _
     have HR19:=zh (pk_new w18 q5)
     obtain⟨B7,hB7⟩:∃ B7,B7=w18.heap.size:=⟨_,rfl⟩
     rw[<- hB7]at HR19 |-
     clear hB7
     generalize w18.alloc (.cells q5.cells.toArray 31)=w19 at HA19 HR19 |-
     have HM19:Hid (Mean w19 w17.heap.size q5 P4):=(uh HM18).bel (uh HA19)
     have HN19:Hid (Mean w19 w15.heap.size q4 P4):=(uh HN18).bel (uh HA19)
     have HE19:Hid (ErrX w19 E4 dm):=(uh HE18).below (uh HA19)
     have HQ19:=zh ((uh HQ18).below (uh HA19))
     have HB19:Hid (Below wr.heap.size wr w19):=bnk (uh HB18) (uh HA19)
     clear HM18 HN18 HE18 HQ18 HB18 HA19
     go_wp2_with fail
     refine (num4 E4 dm w19 ((uh HD) _ (bnk (uh HCr) (uh HB19))).2.2.1 (uh HE19)).mono ?_
     rintro e w20 ⟨rfl,hb20⟩
     have HM20:Hid (Mean w20 w17.heap.size q5 P4):=(uh HM19).bel hb20
     have HN20:Hid (Mean w20 w15.heap.size q4 P4):=(uh HN19).bel hb20
     have HQ20:=zh ((uh HQ19).below hb20)
     have HR20:=zh ((uh HR19).below hb20)
     have HB20:Hid (Below wr.heap.size wr w20):=bnk (uh HB19) hb20
     clear hb20 HM19 HN19 HE19 HQ19 HR19 HB19
     have hmm:(dm != dm)=false:=by simp
     dsimp only
     iterate 22 go_step
     refine mpList_wanted (by rfl) fun K hK=>wp_load_mid 31 _ rfl B6 0 rfl q4.cells _ (uh HQ20).range Tryz.underlying31 rfl packet_size (hK _ _ ?_)
     clear hK K
     simp only[sp]
     refine mpList_wanted (by rfl) fun K hK=>wp_load_mid 31 _ rfl B7 0 rfl q5.cells _ (uh HR20).range Tryz.underlying31 rfl packet_size (hK _ _ ?_)
     clear hK K
     simp only[sp]
     have HEQ:Hid (Calls Tryz.prog 12 #[.agg q4.cells.toArray,.agg q5.cells.toArray] w20 fun e w'=>e=.returned (.bool true)/\Below w20.heap.size w20 w'):=eqpk_same q4 q5 P4 w20 ((uh HN20).rpk (uh HLT)) ((uh HM20).rpk (uh HLT)) (uh HLT).small
     go_wp2_with fail
     refine (uh HEQ).mono ?_
     rintro e w21 ⟨rfl,hb21⟩
     have HB21:Hid (Below w13.heap.size w13 w21):=bnk (uh HBL) (bnk (uh HB20) hb21)
     clear hb21 HEQ HB20 HM20 HN20 HQ20 HR20 hmm
     go_wp2
     go_roundw
     case rel=>exact⟨m+1+nb/30,by omega,by go_num,uh HB21⟩
     case measure=>simp[intOf];omega
    ·have HBb:=zh ((uh HD) _ (uh HCr)).2.2.2.1
     go_wp2
     go_roundw
     case rel=>exact⟨k+1,by omega,by omega,by go_num,uh HBb⟩
     case measure=>simp[intOf];omega
  ·go_wp2_with (go_at_call 15;refine (wakes4 _).mono ?_;rintro e w' ⟨rfl,hbw⟩)
   all_goals (
    go_ret
    exact⟨rfl,hbel.trans (hbw.mono hbel.size)⟩)
theorem kind_walk0 (kk:Int) (ao:Option Addr) (cap:Nat) (w:World):Calls Tryz.prog 4 #[.slice ao 0 cap,.int .i64 kk] w fun e w'=>e=.returned (.bool true)/\Below w.heap.size w w':=by
 go_enter Tryz.func4,Tryz.ntmps4
 go_wp2
 refine wp_loop_rounds 1 ?_
 rw[rounds_succ]
 go_wp2_with (go_at_call 15;refine (wakes4 _).mono ?_;rintro e w' ⟨rfl,hbw⟩)
 go_ret
 exact⟨rfl,hbw⟩
end Go.Proofs.YtmpijpjlbhfccaaGreatDoor.K.W
namespace Go.Proofs.YtmpijpjlbhfccaaGreatDoor.K.W
open Go.ChangeShapes Go.WideShapes Go.ChangeAt Go.RowKit Go.Deep
open Go.Proofs.YtmpijpjlbhfccaaGreatDoor.K
set_option maxRecDepth 100000
theorem cU8:Tryz.prog.cellsOf 5=1:=by kernel_rfl
theorem byt_of_trod {H:Type} {enc:TypeId×Value->H} {W:World} {fuel:Nat} {v:Value} {d:DataW H} {ps:List MemPlace} (h:DataW.trod enc Tryz.prog W 0 (fun _=>true) true fuel 33 [v]=some (d,ps)) :
  ∃ bs,Byt W v bs:=by
 rcases open_ints Tryz.underlying33 Tryz.underlying5 cU8 h with⟨hcs,hx⟩|⟨a,len,cap,zs,hcs,_,hl,hm,hz,hx,hcell,hwz⟩
 ·simp at hcs
  subst hcs
  exact⟨[],⟨none,0,rfl,⟨by simp,by simp⟩,by intro j;simp,.inl rfl⟩⟩
 ·simp at hcs
  subst hcs
  simp only[if_true]at hz
  simp only[Prod.mk.injEq]at hx
  obtain⟨rfl,rfl⟩:=hx
  have hr:∀ j,0<=(zs.take len).getD j 0/\(zs.take len).getD j 0<=255:=by
   intro j
   by_cases hj:j<(zs.take len).length
   ·have hmem:(zs.take len).getD j 0∈zs:=by
     rw[List.getD_eq_getElem?_getD,List.getElem?_eq_getElem hj]
     exact List.mem_of_mem_take (List.getElem_mem hj)
    have:=hwz _ hmem
    have h1:IntKind.u8.min=0:=rfl
    have h2:IntKind.u8.max=255:=rfl
    simp only[Lit.wf,Bool.and_eq_true,decide_eq_true_eq]at this
    omega
   ·rw[List.getD_eq_getElem?_getD,List.getElem?_eq_none (by omega)];simp
  have hlen:(zs.take len).length=len:=by rw[List.length_take];omega
  refine⟨zs.take len,⟨some a,cap,by rw[hlen],⟨by rw[hlen];exact hl,hm⟩,hr,?_⟩⟩
  ·by_cases h0:len=0
   ·exact .inl (by rw[h0];rfl)
   ·obtain⟨b,off,spot⟩:=a
    have hspot:spot=none:=by simpa [Addr.add] using World.cell?_spot (hcell 0 (by omega))
    subst hspot
    refine .inr ⟨b,off,rfl,fun j hj=>?_⟩
    rw[hlen]at hj
    rw[<- add_plain,hcell j (by omega),List.getD_eq_getElem?_getD,List.getD_eq_getElem?_getD,List.getElem?_take,if_pos hj]
def AsksB (W:World) (v:Value):Prop :=
 ∃ ao len cap,v=.slice ao len cap/\len<=maxLen/\(len=0\/∃ b off,ao=some ⟨b,off,none⟩/\∃ (qs:Nat->Pkv) (Pp:Nat->Pa) (vs:Nat->Value) (zs:Nat->List Int),∀ k,k<len->AskB W b (off+k*20) (qs k) (Pp k) (vs k) (zs k))
abbrev AskT:=(Pkv×Pa)×Value×List Int
abbrev akc (x:AskT):List Value:=x.1.1.cells++[x.2.1]
theorem cells_len (q:Pkv):q.cells.length=19:=rfl
theorem ask_of {H:Type} {enc:TypeId×Value->H} {W:World} {n:Nat} {cs:List Value} {d0:DataW H} {ps:List MemPlace} (h:DataW.trod enc Tryz.prog W 0 (fun _=>true) true n 35 cs=some (d0,ps)) (hb:Rows.uptoBulk d0<=1048576) :
  (∃ x:AskT,cs=akc x/\RPk W x.1.1 x.1.2/\Ok x.1.2/\Byt W x.2.1 x.2.2)/\1<=Rows.uptoBulk d0:=by
 refine⟨?_,one_le d0⟩
 obtain⟨xs,k,hk,hxy,hcl,hxl,hf⟩:=DataW.trod_struct Tryz.underlying35 h
 rw[cAsk]at hcl
 simp only[Prod.mk.injEq]at hxy
 match xs,hxl with
 | [y0,y1],_ =>
  have g0:=hf 0 _ rfl
  simp[cPk]at g0
  have g1:=hf 1 _ rfl
  simp[cBytes]at g1
  obtain⟨d1,p1⟩:=y0
  obtain⟨q,P,hq,hR,hO⟩:=pk_of g0 (by
   have k1:=part_le (d:=d1) (l:=[d1,y1.1]) (by simp)
   rw[hxy.1]at hb
   simp only[List.map,Rows.uptoBulk]at hb
   omega)
  have hd:cs=cs.take 19++cs.drop 19:=(List.take_append_drop 19 cs).symm
  have hl:(cs.drop 19).length=1:=by rw[List.length_drop,hcl]
  obtain⟨v,hv⟩:=List.length_eq_one_iff.1 hl
  rw[hv]at g1
  obtain⟨d2,p2⟩:=y1
  obtain⟨bs,hB⟩:=byt_of_trod (v:=v) (by simpa using g1)
  exact⟨((q,P),v,bs),by rw[hd,hv,hq],hR,hO,hB⟩
theorem asks_openB {H:Type} {enc:TypeId×Value->H} {W:World} {v:Value} {d:DataW H} {ps:List MemPlace} (h:DataW.Trod enc Tryz.prog W 0 (fun _=>true) true 22 v d ps) (hs:∃ ao len cap,v=.slice ao len cap)
  (hb:Rows.uptoBulk d<=1048576):AsksB W v:=by
 obtain⟨ao,len,cap,rfl⟩:=hs
 obtain⟨fuel,hf⟩:=h
 obtain⟨s,l,hv,hn,hc,hat,hg,-⟩:=list_of_trod (α:=AskT) ((pkz,pa0 0 false 0 false),.nilIface,[]) 22 35 20 1 Tryz.underlying22 cAsk (by omega) akc (fun x=>by simp[akc,cells_len]) (fun x=>RPk W x.1.1 x.1.2/\Ok x.1.2/\Byt W x.2.1 x.2.2) (fun n cs d ps h hb=>ask_of h hb) (v:=.slice ao len cap) (by simpa [Value.cells] using hf) hb
 have e1:ao=s.ao/\len=s.n/\cap=s.cap:=by
  have:=hv
  simp only[Sl.val,Value.slice.injEq]at this
  exact this
 obtain⟨e1,e2,e3⟩:=e1
 refine⟨ao,len,cap,rfl,by rw[e2,hn];omega,?_⟩
 rcases hat with h0|⟨b,off,e,hat⟩
 ·exact .inl (by rw[e2,hn,h0];rfl)
 ·refine .inr ⟨b,off,by rw[e1,e],fun k=>(l.getD k ((pkz,pa0 0 false 0 false),.nilIface,[])).1.1,fun k=>(l.getD k ((pkz,pa0 0 false 0 false),.nilIface,[])).1.2,fun k=>(l.getD k ((pkz,pa0 0 false 0 false),.nilIface,[])).2.1,fun k=>(l.getD k ((pkz,pa0 0 false 0 false),.nilIface,[])).2.2,fun k hk=>?_⟩
  rw[e2,hn]at hk
  refine⟨fun j u hu=>hat k hk j u ?_,(hg k hk).1,(hg k hk).2.1,hat k hk 19 _ ?_,(hg k hk).2.2⟩
  ·have hj:=(List.getElem?_eq_some_iff.1 hu).1
   rw[List.getElem?_append_left hj]
   exact hu
  ·rw[List.getElem?_append_right (by rw[cells_len];omega),cells_len]
   rfl
theorem kind_calls (kk:Int) (H:KindOk kk) (v:Value) (w:World) (hg:Laid w) (h:AsksB w v) :
  Calls Tryz.prog 4 #[v,.int .i64 kk] w fun e w'=>e=.returned (.bool true)/\Below w.heap.size w w':=by
 obtain⟨ao,len,cap,rfl,hlen,h0|⟨b,off,rfl,qs,Pp,vs,zs,hk⟩⟩:=h
 ·subst h0
  exact kind_walk0 kk ao cap w
 ·exact kind_walk kk H b off len cap qs Pp vs zs w hlen hg hk
end Go.Proofs.YtmpijpjlbhfccaaGreatDoor.K.W
namespace Go.Proofs.YtmpijpjlbhfccaaGreatDoor.K.W
open Go.RowKit
open Go.Proofs.YtmpijpjlbhfccaaGreatDoor.K
set_option maxRecDepth 100000
theorem kindok_1:KindOk 1 where
 enc:=fun hR hB hk=>enc_conn hR hB hk
 ebk:=fun hk _=>eb_1 hk
 may:=fun {w q P} hR hM hk=>by
  unfold mayA
  rw[if_pos (by omega)]
  exact mayA_conn hR hM hk
 gb:=fun {w q P} hR hM hpy hk=>by
  obtain⟨h0,h1,h2,h3,h4,h5,h6,h7,h8,h9,h10,h11⟩:=hR.sc
  have k4:P.kind=1:=by omega
  unfold mayA at hM
  unfold gbd
  rw[if_pos (by omega)]at hM
  rw[if_pos (by omega)]
  obtain⟨hc,-,hok⟩:=tlB_ok hM
  rw[<- h0]at hok k4
  obtain⟨c1,⟨c2,c3,c4⟩,c5,c6,c7⟩:=conO_ok hc
  rw[<- h7]at c1
  refine gb_conn q P.props w hR.props hok _ (fun W hW=>?_) k4
  have hR2:=hR.below hW
  have k:=gconn_any q P.props W hR2.props hok P.wills P.user P.pass hR2.wills hR2.user hR2.pass c2 c3 c4 c1 c5 c6 c7
  unfold gcon at k
  rw[h7,h8,h9]at k
  exact k
 pk:=fun b h0 h1 hk hb R st w0 w hS hp hl=>by
  obtain⟨e1,e2⟩:=pkat_oth (b:=b) (by omega)
  rw[e1,hk]at hp
  rw[e2,hk]
  exact packet_k1 R st w0 w hS hp hl
 bd:=fun b h0 h1 hk hb R A st w0 w hS hp hA hA0 hl=>by
  obtain⟨e1,e2⟩:=pkat_oth (b:=b) (by omega)
  rw[e1,hk]at hp
  rw[e2,hk]
  exact body_1 R A _ _ _ st w0 w hS hp hA hA0
 back:=fun {P l} hk he hf hr=>by
  rw[bpa_oth hf (by omega),hk]
  exact B.pk_et (B.back_1 hk he hr)
end Go.Proofs.YtmpijpjlbhfccaaGreatDoor.K.W
