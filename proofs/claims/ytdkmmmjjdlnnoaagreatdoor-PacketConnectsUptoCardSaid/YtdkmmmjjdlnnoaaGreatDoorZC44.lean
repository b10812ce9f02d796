/- Proved here: helpers, one text behind the other. -/
import Derived.Test.YtdkmmmjjdlnnoaaGreatDoorZC38
import Derived.Test.YtdkmmmjjdlnnoaaGreatDoorZC43
namespace Go.Proofs.YtdkmmmjjdlnnoaaGreatDoor.K.W
open Go.RowKit
open Go.Proofs.YtdkmmmjjdlnnoaaGreatDoor.K
set_option maxRecDepth 100000
structure KindOk (k:Int):Prop where
 enc:∀ {w:World} {q:Pkv} {P:Pa},RPk w q P->Big P->P.kind=k->Calls Tryz.prog 19 #[q.val] w (EncQ (fkA P).1 (fkA P).2 q.kind (eb P) w)
 ebk:∀ {P:Pa},P.kind=k->(fkA P).2=true->eb P=if mayA P then some (gbd P) else none
 may:∀ {w:World} {q:Pkv} {P:Pa},RPk w q P->Mid P->P.kind=k->Calls Tryz.prog 39 #[q.val] w fun e w'=>e=.returned (.bool (mayA P))/\Below w.heap.size w w'
 gb:∀ {w:World} {q:Pkv} {P:Pa},RPk w q P->mayA P=true->P.payload.size<=1073741824->P.kind=k->Calls Tryz.prog 40 #[q.val] w (GPut (gbd P) w)
 pk:∀ b:Int,0<=b->b<=255->b / 16=k->bok b=true->PkAt b
 bd:∀ b:Int,0<=b->b<=255->b / 16=k->bok b=true->BdAt b
 back:∀ {P:Pa} {l:List Int},P.kind=k->eb P=some l->(fkA P).2=true->Rng l->packet? (bpa (fb P.kind (fkA P).1)) l=some (P,[])
theorem enc_pageK {k:Int} (H:KindOk k) {w:World} {q:Pkv} {P:Pa} (hR:RPk w q P) (hB:Big P) (hk:P.kind=k):Calls Tryz.prog 19 #[q.val] w (EncR P w):=by
 have hE:=H.enc hR hB hk
 rw[hR.sc.1]at hE
 refine hE.mono fun e w' h=>⟨h.1,?_⟩
 by_cases hm:mayA P=true
 ·have hf:=fk_of hm
  have he:eb P=some (gbd P):=by rw[H.ebk hk hf,if_pos hm]
  have hb:ebytes P.kind (fkA P).1 (gbd P)=pby P:=ebytes_eq hm
  rcases h.2 with⟨h1 | h1,-⟩ | ⟨-,l,h1,h2,h3⟩ | ⟨-,l,h1,h2,v,h3,h4,h5⟩
  ·rw[hf]at h1;cases h1
  ·rw[he]at h1;cases h1
  ·rw[he]at h1
   cases h1
   rw[hb]at h2
   exact .inr (.inl ⟨hm,h2,h3⟩)
  ·rw[he]at h1
   cases h1
   rw[hb]at h2 h4 h5
   exact .inr (.inr ⟨hm,h2,v,h3,⟨uh h4,uh h5⟩⟩)
 ·have hm:mayA P=false:=Bool.not_eq_true _ ▸ hm
  rcases h.2 with⟨-,h1⟩ | ⟨hf,l,h1,-⟩ | ⟨hf,l,h1,-⟩
  ·exact .inl ⟨hm,h1⟩
  ·rw[H.ebk hk hf,hm]at h1;cases h1
  ·rw[H.ebk hk hf,hm]at h1;cases h1
theorem gencK {k:Int} (H:KindOk k) {w:World} {q:Pkv} {P:Pa} (hR:RPk w q P) (hM:Mid P) (hpy:P.payload.size<=1073741824) (hk:P.kind=k):Calls Tryz.prog 20 #[q.val] w (GEnc P.kind (gfl P.kind P.dup P.qos P.retain) (mayA P) (gbd P) w):=by
 obtain⟨h0,h1,h2,h3,-⟩:=hR.sc
 by_cases hm:mayA P=true
 ·rw[hm]
  have k:=genc_core q true (gbd P) w (gbd_len hm hpy) (fun W hW=>by have:=H.may (hR.below hW) hM hk;rw[hm]at this;exact this) (fun _=>by rw[h0,h2];exact mayA_kind hm) (fun _ W hW=>H.gb (hR.below hW) hm hpy hk)
  rw[h0,h1,h2,h3]at k
  exact k
 ·have hm:mayA P=false:=Bool.not_eq_true _ ▸ hm
  rw[hm]
  have k:=genc_core q false [] w (by simp) (fun W hW=>by have:=H.may (hR.below hW) hM hk;rw[hm]at this;exact this) (fun e=>by cases e) (fun e=>by cases e)
  refine k.mono fun e w' h=>⟨h.1,.inl ?_⟩
  rcases h.2 with h | ⟨h,-⟩ | ⟨h,-⟩
  ·exact h
  ·cases h
  ·cases h
theorem enc_uniK {k:Int} (H:KindOk k) {w:World} {q:Pkv} {P:Pa} (hR:RPk w q P) (hB:Big P) (hk:P.kind=k):Calls Tryz.prog 19 #[q.val] w fun e w'=>∃ v E,e=.returned (.tuple #[v,E])/\Hid (Byt w' v (eB P))/\Hid (ErrX w' E (eN P))/\Below w.heap.size w w':=by
 refine (enc_pageK H hR hB hk).mono ?_
 rintro e w' ⟨hb,⟨hm,x,rfl,hE⟩ | ⟨hm,hl,x,rfl,hE⟩ | ⟨hm,hl,v,rfl,hv⟩⟩
 ·have e1:eN P=1:=by unfold eN;rw[if_neg (by rw[hm];decide)]
  have e2:eB P=[]:=by unfold eB;rw[if_neg (by rw[hm];simp)]
  refine⟨_,_,rfl,?_,?_,hb⟩
  ·rw[e2];exact nil_byt _
  ·rw[e1];exact ErP.xx (uh hE)
 ·have e1:eN P=2:=by unfold eN;rw[if_pos hm,if_neg (by omega)]
  have e2:eB P=[]:=by unfold eB;rw[if_neg (by omega)]
  refine⟨_,_,rfl,?_,?_,hb⟩
  ·rw[e2];exact nil_byt _
  ·rw[e1];exact ErP.xx (uh hE)
 ·have e1:eN P=0:=by unfold eN;rw[if_pos hm,if_pos hl]
  have e2:eB P=pby P:=by unfold eB;rw[if_pos ⟨hm,hl⟩]
  refine⟨_,_,rfl,?_,?_,hb⟩
  ·rw[e2];exact (uh hv).byt
  ·rw[e1];exact .inl ⟨rfl,rfl⟩
theorem genc_uniK {k:Int} (H:KindOk k) {w:World} {q:Pkv} {P:Pa} (hR:RPk w q P) (hM:Mid P) (hpy:P.payload.size<=1073741824) (hk:P.kind=k):Calls Tryz.prog 20 #[q.val] w fun e w'=>∃ v,e=.returned (.tuple #[v,.int .i64 (eN P)])/\Hid (Byt w' v (eB P))/\Below w.heap.size w w':=by
 refine (gencK H hR hM hpy hk).mono ?_
 rintro e w' ⟨hb,⟨hm,rfl⟩ | ⟨hm,hl,rfl⟩ | ⟨hm,hl,v,rfl,hv⟩⟩
 ·have e1:eN P=1:=by unfold eN;rw[if_neg (by rw[hm];decide)]
  have e2:eB P=[]:=by unfold eB;rw[if_neg (by rw[hm];simp)]
  refine⟨_,by rw[e1],?_,hb⟩
  rw[e2];exact nil_byt _
 ·have e1:eN P=2:=by unfold eN pby;rw[if_pos hm,if_neg (by omega)]
  have e2:eB P=[]:=by unfold eB pby;rw[if_neg (by omega)]
  refine⟨_,by rw[e1],?_,hb⟩
  rw[e2];exact nil_byt _
 ·have e1:eN P=0:=by unfold eN pby;rw[if_pos hm,if_pos hl]
  have e2:eB P=pby P:=by unfold eB pby;rw[if_pos ⟨hm,hl⟩]
  refine⟨_,by rw[e1],?_,hb⟩
  rw[e2];exact (uh hv).byt
theorem first_any {P:Pa} (hf:(fkA P).2=true):fb P.kind (fkA P).1 / 16=P.kind/\bok (fb P.kind (fkA P).1)=true/\(0<=fb P.kind (fkA P).1/\fb P.kind (fkA P).1<=255):=by
 by_cases h3:P.kind=3
 ·have e:fkA P=(pfl P.dup P.qos P.retain,pok P.dup P.qos):=by unfold fkA;rw[if_pos h3]
  rw[e]at hf |-
  dsimp only at hf |-
  rw[h3]
  obtain⟨b1,b2,b3,b4,b5,b6⟩:=B.first_pub P.dup P.retain P.qos hf
  exact⟨b1,b5,b6⟩
 ·have hkr:1<=P.kind/\P.kind<=15:=by
   unfold fkA at hf
   rw[if_neg h3]at hf
   by_cases h6:P.kind=6\/P.kind=8\/P.kind=10
   ·omega
   ·rw[if_neg h6]at hf
    simp only[Bool.and_eq_true,decide_eq_true_eq]at hf
    exact hf
  have e:(fkA P).1=(if P.kind=6\/P.kind=8\/P.kind=10 then (2:Int) else 0):=by
   unfold fkA
   rw[if_neg h3]
   by_cases h6:P.kind=6\/P.kind=8\/P.kind=10
   ·rw[if_pos h6,if_pos h6]
   ·rw[if_neg h6,if_neg h6]
  exact B.first_oth P.kind hkr.1 hkr.2 h3 _ e
theorem dec_backK {k:Int} (H:KindOk k) {P:Pa} (hk:P.kind=k) (hm:mayA P=true) (hr:Rng (pby P)) (hl:(pby P).length<=65536):dnum (pby P)=0/\dN (pby P)=(pby P).length/\dP (pby P)=P/\(pby P).getD 0 0 / 16=k:=by
 have hf:=fk_of hm
 have he:eb P=some (gbd P):=by rw[H.ebk hk hf,if_pos hm]
 have hrg:Rng (gbd P):=by unfold pby gbytes at hr;exact B.rng_r hr
 have h1:=H.back hk he hf hrg
 obtain⟨b1,b2,b3⟩:=first_any hf
 have hpb:pby P=([fb P.kind (fkA P).1]++V.put ((gbd P).length:Int))++gbd P:=by rw[fb_eq hm];rfl
 have hlen:(pby P).length=1+(V.put ((gbd P).length:Int)).length+(gbd P).length:=by
  rw[hpb,List.length_append,List.length_append]
  rfl
 have hmm:meas (pby P)=(1+(V.put ((gbd P).length:Int)).length,1+(V.put ((gbd P).length:Int)).length+(gbd P).length,0):=by
  have k:=B.meas_back (fb P.kind (fkA P).1) (gbd P) [] (by omega)
  rw[List.append_nil]at k
  rw[hpb]
  exact k
 have h0:(pby P).getD 0 0=fb P.kind (fkA P).1:=by rw[hpb];rfl
 have hd:dbody (pby P)=some (P,[]):=by
  unfold dbody
  rw[hmm,h0]
  have e:((pby P).drop (1+(V.put ((gbd P).length:Int)).length)).take (1+(V.put ((gbd P).length:Int)).length+(gbd P).length - (1+(V.put ((gbd P).length:Int)).length))=gbd P:=by
   rw[hpb,List.drop_left' (by rw[List.length_append];rfl),Nat.add_sub_cancel_left,List.take_length]
  dsimp only
  rw[e]
  exact h1
 have hn:dnum (pby P)=0:=by
  unfold dnum
  rw[if_neg (by intro e;rw[e]at hlen;simp at hlen;omega),h0,if_neg (by rw[b2];decide),hmm,if_neg (by simp),hd]
  rfl
 refine⟨hn,?_,dP_good hn hd,by rw[h0,b1,hk]⟩
 unfold dN
 rw[if_pos hn,hmm,hlen]
theorem dec_uniK {k:Int} (H:KindOk k) (v:Value) (l:List Int) (w:World) (h:Byt w v l) (h0:l.getD 0 0 / 16=k):Calls Tryz.prog 23 #[v] w fun e w'=>∃ (q:Pkv) (E:Value),e=.returned (.tuple #[q.val,.int .i64 (dN l:Nat),E])/\Hid (Mean w' w.heap.size q (dP l))/\Hid (ErrX w' E (dnum l))/\Below w.heap.size w w':=by
 refine (decode_k v l w h (fun hb=>H.pk _ (h.range 0).1 (h.range 0).2 h0 hb)).mono ?_
 rintro e w' ⟨q,n,E,rfl,h1 | h1,hb⟩
 ·obtain⟨h0,rfl,rfl,hE⟩:=h1
  obtain⟨x,d,rfl,hd,hE⟩:=uh hE
  exact⟨pkz,_,by unfold dN;rw[if_neg h0],by rw[dP_bad h0];exact mean_z _ _,.inr ⟨d,hd,hE⟩,hb⟩
 ·obtain⟨h0,rfl,rfl,P,r,hd,hm⟩:=h1
  exact⟨q,_,by unfold dN;rw[if_pos h0],by rw[dP_good h0 hd];exact hm,.inl ⟨h0,rfl⟩,hb⟩
theorem pdec_uniK {k:Int} (H:KindOk k) (v:Value) (l:List Int) (w:World) (h:Byt w v l) (h0:l.getD 0 0 / 16=k):Calls Tryz.prog 26 #[v,.int .i64 65536] w fun e w'=>∃ q:Pkv,e=.returned (.tuple #[q.val,.int .i64 (dN l:Nat),.int .i64 (dnum l)])/\Hid (Mean w' w.heap.size q (dP l))/\Below w.heap.size w w':=by
 refine (pdec_k v l 65536 w h (by omega) (fun hb=>H.bd _ (h.range 0).1 (h.range 0).2 h0 hb)).mono ?_
 rintro e w' ⟨q,n,rfl,h1,hb⟩
 rw[pnum_is]at h1 |-
 rcases h1 with⟨h0,rfl,rfl⟩ | ⟨h0,rfl,P,r,hd,hm⟩
 ·exact⟨pkz,by unfold dN;rw[if_neg h0],by rw[dP_bad h0];exact mean_z _ _,hb⟩
 ·exact⟨q,by unfold dN;rw[if_pos h0],by rw[dP_good h0 hd];exact hm,hb⟩
theorem cp_any {P:Pa} (h:Ok P):CpOk P :=
 ⟨by have:=h.props;omega,⟨by have:=h.wills;omega,fun k hk=>by have:=h.wprops k hk;omega⟩,by have:=h.ub.user.1;omega,by have:=h.ub.pass.1;omega,by have:=h.subs;omega,by have:=h.ub.filters.1;omega,by have:=h.ub.codes;omega⟩
theorem xor_hi (b m:Int) (h0:0<=b) (h1:b<=255) (hm:0<=m/\m<=15):bits .xor .u8 b m / 16=b / 16:=by
 have h:∀ m ∈ [(0:Int),1,2,3,4,5,6,7,8,9,10,11,12,13,14,15],bits .xor .u8 b m / 16=b / 16:=byte_cases (P:=fun b=>∀ m ∈ [(0:Int),1,2,3,4,5,6,7,8,9,10,11,12,13,14,15],bits .xor .u8 b m / 16=b / 16) (by decide +kernel) b h0 h1
 refine h m ?_
 obtain⟨h2,h3⟩:=hm
 have:m=0\/m=1\/m=2\/m=3\/m=4\/m=5\/m=6\/m=7\/m=8\/m=9\/m=10\/m=11\/m=12\/m=13\/m=14\/m=15:=by omega
 rcases this with rfl | rfl | rfl | rfl | rfl | rfl | rfl | rfl | rfl | rfl | rfl | rfl | rfl | rfl | rfl | rfl <;> simp
theorem set_first (l:List Int) (j:Nat) (m k:Int) (hr:∀ j,0<=l.getD j 0/\l.getD j 0<=255) (hj:j < l.length) (hm:j=0->0<=m/\m<=15) (h:l.getD 0 0 / 16=k):(l.set j (bits .xor .u8 (l.getD j 0) m)).getD 0 0 / 16=k:=by
 cases j with
 | zero =>
  cases l with
  | nil=>exact absurd hj (by simp)
  | cons a t =>
   have e:=xor_hi a m (hr 0).1 (hr 0).2 (hm rfl)
   simpa [List.set] using e.trans h
 | succ j =>
  cases l with
  | nil=>exact absurd hj (by simp)
  | cons a t=>simpa [List.set] using h
end Go.Proofs.YtdkmmmjjdlnnoaaGreatDoor.K.W
