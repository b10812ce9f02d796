/- Proved here: helpers, one text behind the other. -/
import Derived.Test.YtdkmmmjjdlnnoaaGreatDoorZC38
import Derived.Test.YtdkmmmjjdlnnoaaGreatDoorZC33
import Derived.Test.YtdkmmmjjdlnnoaaGreatDoorZC29
import Derived.Test.YtdkmmmjjdlnnoaaGreatDoorZC6
import Derived.Test.YtdkmmmjjdlnnoaaGreatDoorZK10R3
import Derived.Test.YtdkmmmjjdlnnoaaGreatDoorZK10R2
import Derived.Deep.Cut
import Derived.Test.YtdkmmmjjdlnnoaaGreatDoorZC27
import Derived.Test.YtdkmmmjjdlnnoaaGreatDoorZC40
import Derived.Test.YtdkmmmjjdlnnoaaGreatDoorZC42
import Derived.Laws.AppendOwn
import Derived.Deep.CutRange
import Derived.Test.YtdkmmmjjdlnnoaaGreatDoorZC44
set_option maxHeartbeats 20000000
namespace Go.Proofs.YtdkmmmjjdlnnoaaGreatDoor.K
open Go.RowKit
set_option maxRecDepth 100000
theorem mayA_filters {w:World} {q:Pkv} {P:Pa} (hR:RPk w q P) (hM:Mid P) (hk:P.kind=10):Calls Tryz.prog 39 #[q.val] w fun e w'=>e=.returned (.bool (tlB P ((idO P.id && mc P.filters.length) && P.filters.all okT) (empA P.no_id.no_props.no_filters)))/\Below w.heap.size w w':=by
 have hB:=hM.big
 obtain⟨h0,h1,h2,h3,h4,h5,h6,h7,h8,h9,h10,h11⟩:=hR.sc
 have hx:RPk w (((xk q).wi_id q.id).wi_filters q.filters) (⟨P.kind,false,0,false,⟨#[]⟩,P.id,⟨#[]⟩,P.props,⟨#[]⟩,false,0,[],[],[],0,false,[],P.filters,[]⟩:Pa):=⟨⟨h0,rfl,rfl,rfl,rfl,h5,rfl,rfl,rfl,rfl,rfl,rfl⟩,hR.props,⟨none,0,rfl,⟨Nat.le_refl _,Nat.zero_le _⟩,.inl rfl⟩,⟨none,0,rfl,⟨Nat.le_refl _,Nat.zero_le _⟩,.inl rfl⟩,⟨none,0,rfl,⟨Nat.le_refl _,Nat.zero_le _⟩,.inl rfl⟩,⟨none,0,rfl,⟨Nat.le_refl _,Nat.zero_le _⟩,.inl rfl⟩,hR.filters,⟨none,0,rfl,⟨Nat.le_refl _,Nat.zero_le _⟩,.inl rfl⟩⟩
 have hs:Small (⟨P.kind,false,0,false,⟨#[]⟩,P.id,⟨#[]⟩,P.props,⟨#[]⟩,false,0,[],[],[],0,false,[],P.filters,[]⟩:Pa):=⟨by have:=hB.lists;have:=hM.props;simp;try omega,by have:=hB.lists;simp;try omega,by have:=hB.lists;simp;try omega⟩
 have k:=may_filters q P w hR hM.props hB.props (empA P.no_id.no_props.no_filters) (heq_of hx hR hs (only_filters P)) hB.filters _ rfl (by have:=hB.lists;omega) hk
 rw[h5]at k
 exact k
theorem lsok {w:World} {q:Pkv} {P:Pa} (hR:RPk w q P) (h:LsOk P) (hk:P.kind=8\/P.kind=9\/P.kind=10\/P.kind=11):Calls Tryz.prog 40 #[q.val] w (GPut ((((b2 P.id++pbs P.props)++P.subs.flatMap gsub)++P.filters.flatMap tx)++P.codes.flatMap gcod) w):=by
 obtain⟨h0,h1,h2,h3,h4,h5,h6,h7,h8,h9,h10,h11⟩:=hR.sc
 have k:=gb_lists q P.props w hR.props (by rw[h0];exact h.okp) P.subs P.filters P.codes hR.subs hR.filters hR.codes h.ns h.nf h.nc h.zs h.zf (by rw[h0];exact hk)
 rw[h5]at k
 exact k
theorem enc_filters {w:World} {q:Pkv} {P:Pa} (hR:RPk w q P) (hB:Big P) (hk:P.kind=10):Calls Tryz.prog 19 #[q.val] w (EncQ (fkA P).1 (fkA P).2 q.kind (eb P) w):=by
 have hc:=hR.cnt
 have hf:=hB.fit hc
 obtain⟨h0,h1,h2,h3,h4,h5,h6,h7,h8,h9,h10,h11⟩:=hc.sc
 have hL:=hB.lists
 have k:=hk
 rw[<- h0]at k
 refine enc_core q (q.no_id.no_props.no_filters) _ _ _ (5000002+P.filters.length * 70001) w (by omega) (fun W=>fk_any q P hc W) (fun w0 w1 W hb hQ=>?_)
 have e:=(hc.no_id.no_props.no_filters).emp
 unfold eb
 rw[if_neg (by omega),if_neg (by omega),if_neg (by omega),if_neg (by omega),if_neg (by omega),if_pos (by omega),sIpA,sIdA,<- e,<- h0,<- h5]
 exact pk_filters hQ hf P.props (hR.props.below hb) hB.lists.1 hB.props P.filters (hR.filters.below hb) hB.filters 70001 (Nat.le_refl _) (by omega) k
theorem br_eb_10 {P:Pa} (h:P.kind=10) (X:Option (List Int)) (hX:(((sIpA P).bind (sMust (mc P.filters.length))).bind (sEach sTx P.filters)).bind (sMust (empA P.no_id.no_props.no_filters))=X):eb P=X:=by
 unfold eb
 rw[if_neg (by omega),if_neg (by omega),if_neg (by omega),if_neg (by omega),if_neg (by omega),if_pos h]
 exact hX
theorem br_may_10 {P:Pa} (h:P.kind=10) (X:Bool) (hX:tlB P ((idO P.id && mc P.filters.length) && P.filters.all okT) (empA P.no_id.no_props.no_filters)=X):mayA P=X:=by
 unfold mayA
 rw[if_neg (by omega),if_neg (by omega),if_neg (by omega),if_neg (by omega),if_neg (by omega),if_pos h]
 exact hX
theorem br_gb_10 {P:Pa} (h:P.kind=10) (X:List Int) (hX:(((b2 P.id++pbs P.props)++P.subs.flatMap gsub)++P.filters.flatMap tx)++P.codes.flatMap gcod=X):gbd P=X:=by
 unfold gbd
 rw[if_neg (by omega),if_neg (by omega),if_neg (by omega),if_neg (by omega),if_neg (by omega),if_neg (by omega)]
 exact hX
theorem in16_id (n:Int):(in16 n && n != 0)=idO n:=by
 rw[Bool.eq_iff_iff]
 simp[in16,idO]
 omega
theorem each_eq {α:Type} (f:α->List Int->Option (List Int)) (g:α->Bool) (h:α->List Int) (hf:∀ a t,f a t=if g a then some (t++h a) else none):∀ (l:List α) (t:List Int),sEach f l t=if l.all g then some (t++l.flatMap h) else none
 | [],t=>by simp[sEach]
 | a :: r,t=>by
  unfold sEach
  rw[hf,List.all_cons,List.flatMap_cons]
  cases g a
  ·rfl
  ·rw[if_pos rfl]
   show sEach f r (t++h a)=_
   rw[each_eq f g h hf r (t++h a),List.append_assoc]
   rfl
theorem tx_eq (s:ByteArray) (t:List Int):sTx s t=if okT s then some (t++tx s) else none:=rfl
theorem ip_eq (P:Pa):sIpA P=if idO P.id && okP P.kind P.props then some (b2 P.id++pbs P.props) else none:=by
 unfold sIpA sIdA
 rw[in16_id]
 cases idO P.id <;> cases okP P.kind P.props <;> simp[sAdd]
theorem eb_10 {P:Pa} (h:P.kind=10):eb P=if mayA P then some (gbd P) else none:=by
 rw[br_eb_10 h _ rfl,br_may_10 h _ rfl,br_gb_10 h _ rfl,tlB_eq,ip_eq]
 cases he:empA P.no_id.no_props.no_filters
 ·cases idO P.id <;> cases okP P.kind P.props <;> cases mc P.filters.length <;> simp[sMust]
 ·obtain⟨e1,-,e3⟩:=emp_lists he
  have e1:P.subs=[]:=List.length_eq_zero_iff.1 e1
  have e3:P.codes=[]:=List.length_eq_zero_iff.1 e3
  rw[e1,e3]
  cases idO P.id <;> cases okP P.kind P.props <;> cases mc P.filters.length <;> simp only[sMust,each_eq sTx okT tx tx_eq,Bool.and_true,Bool.and_false,Bool.true_and,Bool.false_and,if_true,if_false,Option.bind_some,Option.bind_none,List.flatMap_nil,List.append_nil,Bool.false_eq_true]
  cases P.filters.all okT <;> simp[sMust]
def PgS (w0:GW) (R:Nat) (f:List Int->Option (ByteArray×List Int)) (st:Option (List Int)) (w:World) (e:Ending) (w':World):Prop :=
 ∃ x st',e=.returned (.string x)/\Stp f st x st'/\RP w0 w' R st'/\BX R isAny w w'
theorem text_pg (R:Nat) (st:Option (List Int)) (w0:GW) (w:World) (h:RP w0 w R st):Calls Tryz.prog 102 #[.pointer (some ⟨R,0,none⟩)] w (PgS w0 R text? st w):=by
 have hlt:=h.lt
 have hR0:w0.heap.size<=R:=by obtain⟨_,_,_,_,_,_,_,_,_,_,_,h,_⟩:=h;exact h
 have hw0:Below w0.heap.size w0 w:=by obtain⟨_,_,_,_,_,_,_,_,_,_,h,_⟩:=h;exact h
 have HS:=zh h
 have HW0:=zh hw0
 clear h hw0
 go_enter Tryz.func102,Tryz.ntmps102
 go_wp2_with fail
 refine (left_pg R st w0 w (uh HS)).mono ?_
 rintro e w1 ⟨v,l,rfl,hv,he1,he2,hb1⟩
 have HW1:Hid (Below w0.heap.size w0 w1):=(uh HW0).trans (hb1.mono (uh HW0).size)
 obtain⟨n,hN,hn,_⟩:=gt_len l (uh hv).range
 have HG:=zh (rget_any v l w1 ((uh hv).below (uh HW1)))
 rw[hN]at HG
 have HS1:=zh ((uh HS).below hb1)
 have HB1:=zh hb1
 have HE1:=zh he1
 have HQ:Hid (text? l=if (gt l).2.2=0 then some ((gt l).1,l.drop n) else none):=by
  show text? l=_
  unfold text?
  rw[hN,Int.toNat_natCast]
 clear hb1 he1 he2 hN
 generalize (gt l).1=x at HG HQ
 generalize (gt l).2.2=m at HG HQ
 go_wp2_with fail
 refine (uh HG).mono ?_
 rintro e w2 ⟨rfl,hb2⟩
 have HS2:=zh ((uh HS1).below hb2)
 have HB2:Hid (Below w.heap.size w w2):=(uh HB1).trans (hb2.mono (uh HB1).size)
 clear hb2
 go_wp2_with fail
 refine (took_pg R st n m w0 w2 (uh HS2) (fun l' e=>by rw[(uh HE1) l' e];exact hn)).mono ?_
 rintro e w3 ⟨rfl,h3,hx3⟩
 have HS3:=zh h3
 have HX3:=zh hx3
 clear h3 hx3
 go_wp2
 go_ret
 refine⟨x,_,rfl,?_,uh HS3,(BX.of_below (uh HB2) hlt).trans (uh HX3)⟩
 cases st with
 | none =>
  show (if m=0 then _ else _)=none
  split <;> rfl
 | some l' =>
  have e:=(uh HE1) l' rfl
  subst e
  exact stp_get text? (some l') l' x n m (.inl rfl) (uh HQ)
theorem pair_pg (R:Nat) (st:Option (List Int)) (w0:GW) (w:World) (h:RP w0 w R st):Calls Tryz.prog 103 #[.pointer (some ⟨R,0,none⟩)] w (PgI w0 R 65535 two? st w):=by
 have HS:=zh h
 clear h
 go_enter Tryz.func103,Tryz.ntmps103
 go_wp2_with fail
 refine (byte_pg R st w0 w (uh HS)).mono ?_
 rintro e w1 ⟨x,st1,rfl,hx,hs1,h1,hx1⟩
 have HS1:=zh h1
 have HX1:=zh hx1
 have HST1:=zh hs1
 clear h1 hx1 hs1
 go_wp2_with fail
 refine (byte_pg R st1 w0 w1 (uh HS1)).mono ?_
 rintro e w2 ⟨y,st2,rfl,hy,hs2,h2,hx2⟩
 have HS2:=zh h2
 have HX2:=zh hx2
 have HST2:=zh hs2
 have e1:=K.or_256 x y hx.1 (by omega) hy.1 (by omega)
 clear h2 hx2 hs2
 go_wp2
 go_ret
 refine⟨x * 256+y,st2,rfl,by omega,?_,uh HS2,(uh HX1).trans (uh HX2)⟩
 have k:Stp (bindR one? fun x=>bindR one? fun y=>pureR (x * 256+y)) st (x * 256+y) st2:=(uh HST1).bind ((uh HST2).bind (Stp.pure _ _))
 refine Stp.congr (fun l=>?_) k
 match l with
 | []=>rfl
 | [_]=>rfl
 | _ :: _ :: _=>rfl
theorem B2.setR {R A:Nat} {a b:World} (h:B2 R A a b) (j:Nat) (u:Value):B2 R A a (b.setCell ⟨R,j,none⟩ u) :=
 h.trans ⟨rfl,rfl,rfl,by simp[World.setCell],fun k _ hR _=>Below.heap_setCell _ _ _ _ hR⟩
def moreB:Option (List Int)->Bool
 | none=>false
 | some l=>!l.isEmpty
theorem more_pg (R:Nat) (st:Option (List Int)) (w0:GW) (w:World) (h:RP w0 w R st):Calls Tryz.prog 145 #[.pointer (some ⟨R,0,none⟩)] w fun e w'=>e=.returned (.bool (moreB st))/\Below w.heap.size w w':=by
 obtain⟨ao,n,cap,k,bad,L,hc,hy,hk,hn,hw,hR,hst⟩:=h
 obtain⟨hl,hc1,hc2⟩:=byt_len hy
 unfold maxLen at hc2
 have HD:=zh (bel_drew w)
 obtain⟨h0,⟨h1,f1⟩,h2,f2⟩:=hc
 cases bad
 ·have HM:Hid (moreB st=decide (k < n)):=by
   show _=_
   rw[hst]
   show (!(L.drop k).isEmpty)=_
   rcases Nat.lt_or_ge k n with a | a
   ·rw[decide_eq_true (by omega)]
    cases hd:L.drop k with
    | nil=>have:=congrArg List.length hd;rw[List.length_drop,hl]at this;simp at this;omega
    | cons x t=>rfl
   ·rw[decide_eq_false (by omega),List.drop_of_length_le (by omega)]
    rfl
  clear hst hy hw hl
  go_enter Tryz.func145,Tryz.ntmps145
  go_wp2_with fail
  refine wp_region_noPanic ?_
  refine wp_region_held_drew (S:=(fun w'=>w'.cell? ⟨R,0,none⟩=some (.slice ao n cap)/\w'.cell? ⟨R,1,none⟩=some (.int .i64 (k:Nat))/\w'.cell? ⟨R,2,none⟩=some (.bool false))) (by kernel_rfl) ⟨by simpa using h0,by simpa using h1,by simpa using h2⟩ (fun hHeld=>?_)
  refine rtk 0 (h:=?_)
  refine rtk 1 (h:=?_)
  refine rtk 2 (h:=?_)
  refine rtk 3 (h:=?_)
  refine rtk 4 (h:=?_)
  refine rtk 5 (h:=?_)
  refine rtk 6 (h:=?_)
  refine rtk 7 (h:=?_)
  refine rtk 8 (h:=?_)
  refine rtk 9 (h:=?_)
  refine rtk 10 (h:=?_)
  refine rtk 11 (h:=?_)
  refine rtk 12 (h:=?_)
  refine rtk 13 (h:=?_)
  refine rtk 14 (h:=?_)
  refine rtk 15 (h:=?_)
  refine rtk 16 (h:=?_)
  refine rcl 17 (h:=fun K hK=>?_)
  go_simp
  refine hK.out _ _ ⟨by simpa using h0,by simpa using h1,by simpa using h2⟩ (fun hHeld=>?_)
  clear hK K
  refine wpAnyH_done (by kernel_rfl) ?_ _
  refine NoPanic.normal ?_
  go_wp2
  go_ret
  exact⟨by rw[uh HM];rfl,uh HD⟩
 ·obtain rfl:st=none:=hst
  clear hy hw hl
  go_enter Tryz.func145,Tryz.ntmps145
  go_wp2_with fail
  refine wp_region_noPanic ?_
  refine wp_region_held_drew (S:=(fun w'=>w'.cell? ⟨R,0,none⟩=some (.slice ao n cap)/\w'.cell? ⟨R,1,none⟩=some (.int .i64 (k:Nat))/\w'.cell? ⟨R,2,none⟩=some (.bool true))) (by kernel_rfl) ⟨by simpa using h0,by simpa using h1,by simpa using h2⟩ (fun hHeld=>?_)
  refine rtk 0 (h:=?_)
  refine rtk 1 (h:=?_)
  refine rtk 2 (h:=?_)
  refine rtk 3 (h:=?_)
  refine rtk 4 (h:=?_)
  refine rtk 5 (h:=?_)
  refine rsk 6 (h:=?_)
  refine rsk 7 (h:=?_)
  refine rsk 8 (h:=?_)
  refine rsk 9 (h:=?_)
  refine rsk 10 (h:=?_)
  refine rsk 11 (h:=?_)
  refine rsk 12 (h:=?_)
  refine rsk 13 (h:=?_)
  refine rsk 14 (h:=?_)
  refine rsk 15 (h:=?_)
  refine rtk 16 (h:=?_)
  refine rcl 17 (h:=fun K hK=>?_)
  go_simp
  refine hK.out _ _ ⟨by simpa using h0,by simpa using h1,by simpa using h2⟩ (fun hHeld=>?_)
  clear hK K
  refine wpAnyH_done (by kernel_rfl) ?_ _
  refine NoPanic.normal ?_
  go_wp2
  go_ret
  exact⟨rfl,uh HD⟩
theorem moreB_no {st:Option (List Int)} (h:moreB st=false):st=none\/st=some []:=by
 cases st with
 | none=>exact .inl rfl
 | some l=>cases l with
  | nil=>exact .inr rfl
  | cons a t=>cases h
theorem moreB_yes {st:Option (List Int)} (h:moreB st=true):∃ l,st=some l/\l≠[]:=by
 cases st with
 | none=>cases h
 | some l=>cases l with
  | nil=>cases h
  | cons a t=>exact⟨_,rfl,by simp⟩
def mlp (R:Nat) (w:World):Nat:=match w.cell? ⟨R,2,none⟩ with
 | some (.bool false)=>match w.cell? ⟨R,0,none⟩,w.cell? ⟨R,1,none⟩ with
  | some (.slice _ n _),some (.int _ k)=>n - k.toNat+1
  | _,_=>0
 | _=>0
theorem mlp_some {w0:GW} {w:World} {R:Nat} {l:List Int} (h:RP w0 w R (some l)):mlp R w=l.length+1:=by
 obtain⟨ao,n,cap,k,bad,L,hc,hy,hk,hn,hw,hR,hst⟩:=h
 have hl:=(byt_len hy).1
 cases bad
 ·simp only[Bool.false_eq_true,if_false,Option.some.injEq]at hst
  unfold mlp
  rw[hc.2.2.1,hc.1,hc.2.1.1,hst,List.length_drop,hl]
  simp
 ·cases hst
theorem mlp_none {w0:GW} {w:World} {R:Nat} (h:RP w0 w R none):mlp R w=0:=by
 obtain⟨ao,n,cap,k,bad,L,hc,hy,hk,hn,hw,hR,hst⟩:=h
 cases bad
 ·simp at hst
 ·unfold mlp
  rw[hc.2.2.1]
def pglist? {α:Type} (kind:Int) (f:List Int->Option (α×List Int)):List Int->Option ((Int×List Pr×List α)×List Int) :=
 bindR two? fun i=>bindR (props? kind) fun x=>bindR (manyR f) fun d=>bindR (mustR (!(i == 0) && mc d.length)) fun _=>pureR (i,x,d)
def Shw {α:Type} (f:List Int->Option (α×List Int)):Prop:=∀ l x l',f l=some (x,l')->l'.length<=l.length
theorem stp_leq {α:Type} {f:List Int->Option (α×List Int)} (hf:Shw f) {st st':Option (List Int)} {x:α} {N:Nat} (h:Stp f st x st') (hl:∀ l,st=some l->l.length<=N):∀ l,st'=some l->l.length<=N:=by
 intro l' e
 subst e
 cases st with
 | none=>cases h
 | some l =>
  unfold Stp at h
  simp only at h
  cases hq:f l with
  | none=>rw[hq]at h;cases h
  | some r =>
   obtain⟨y,l2⟩:=r
   rw[hq]at h
   obtain⟨_,e⟩:=h
   cases e
   exact Nat.le_trans (hf l y l' hq) (hl l rfl)
theorem two?_shw:Shw two?:=by
 intro l x l' h
 match l,h with
 | [],h=>cases h
 | [a],h=>cases h
 | a :: b :: t,h =>
  simp[two?]at h
  obtain⟨_,rfl⟩:=h
  simp;omega
theorem props?_shw (k:Int):Shw (props? k):=by
 intro l x l' h
 unfold props? at h
 split at h
 ·simp only[Option.some.injEq,Prod.mk.injEq]at h
  obtain⟨_,rfl⟩:=h
  rw[List.length_drop]
  omega
 ·cases h
theorem bind_none' {α β:Type} (o:Option α):(o.bind fun _=>(none:Option β))=none:=by cases o <;> rfl
def Listsfilters (w0:GW) (R A:Nat) (p:Pkv) (st:Option (List Int)) (w:World) (e:Ending) (w':World):Prop :=
 e=.returned (.tuple #[])/\∃ (i:Int) (s:Sl) (x:List Pr) (t:Sl) (d:List ByteArray) (st':Option (List Int)),Pk w' A { p with id:=i,props:=s,filters:=t }/\Hid (w'.ownsRow w.heap.size 88 4 s.val x.length (pcs x))/\Hid (w'.ownsRow w.heap.size 9 1 t.val d.length (d.map Value.string))/\Stp (pglist? p.kind text?) st (i,x,d) st'/\RP w0 w' R st'/\B2 R A w w'
theorem lists_filters (R A:Nat) (p:Pkv) (st:Option (List Int)) (w0:GW) (w:World) (h:RP w0 w R st) (hp:Pk w A p) (hA:A≠R) (hA0:w0.heap.size<=A) (hF:p.filters=⟨none,0,0⟩) (hl:∀ l,st=some l->l.length<=65536) (h10:p.kind=10):Calls Tryz.prog 106 #[.pointer (some ⟨R,0,none⟩),.pointer (some ⟨A,0,none⟩)] w (Listsfilters w0 R A p st w):=by
 obtain⟨i0,hi0,hz0,hz1,hz2⟩:=info_parts infoStr
 have hRw:=h.lt
 have hAw:=hp.lt
 have hw0:=h.keep.size
 have HP:=zh hp
 have HS:=zh h
 have HL:=zh hl
 have HF:=zh hF
 have HK:=zh h10;clear h10
 clear hp h hl hF
 go_enter Tryz.func106,Tryz.ntmps106
 go_wp2_with fail
 refine (pair_pg R st w0 w (uh HS)).mono ?_
 rintro e w1 ⟨i,st1,rfl,hir,hs1,h1,hx1⟩
 have hp1:=(uh HP).oth hx1 hA
 have c5:=hp1.id
 have f5:=hp1.id_f
 have c0:=hp1.kind
 have HP1:=zh (hp1.set_id i)
 have HS1:=zh (h1.set A 5 (.int .i64 i) hA hA0)
 have HB1:Hid (B2 R A w (w1.setCell ⟨A,5,none⟩ (.int .i64 i))):=(B2.bx hx1).set 5 _
 have HST1:=zh hs1
 have HL1:=zh (stp_leq two?_shw hs1 (uh HL))
 clear hp1 h1 hx1 hs1 hir
 go_wp2_with fail
 refine (props_pg R _ st1 w0 _ (uh HS1)).mono ?_
 rintro e w2 ⟨s,x1,st2,rfl,hO2,hs2,h2,hx2⟩
 have hp2:=(uh HP1).oth hx2 hA
 have c7:=hp2.props
 have f7:=hp2.props_f
 have HP2:=zh (hp2.set_props s)
 have HS2:=zh (h2.set A 7 s.val hA hA0)
 have HB2:Hid (B2 R A w (w2.setCell ⟨A,7,none⟩ s.val)):=((uh HB1).trans (B2.bx hx2)).set 7 _
 have HST2:=zh hs2
 have HL2:=zh (stp_leq (props?_shw p.kind) hs2 (uh HL1))
 have HO2:Hid ((w2.setCell ⟨A,7,none⟩ s.val).ownsRow w.heap.size 88 4 s.val x1.length (pcs x1)):=owns_mono (owns_b2 (R:=R) (uh hO2) ((B2.refl R A w2).set 7 _) (Nat.lt_of_lt_of_le hRw (uh HB1).size) (Nat.lt_of_lt_of_le hAw (uh HB1).size)) (uh HB1).size
 clear hp2 h2 hx2 hs2 c5 f5 c0 hO2 HP1 HS1
 go_wp2
 generalize w2.setCell ⟨A,7,none⟩ s.val=wl at HP2 HS2 HB2 HO2 |-
 have hwl:w.heap.size<=wl.heap.size:=(uh HB2).size
 have hlt:R < wl.heap.size:=Nat.lt_of_lt_of_le hRw hwl
 have hla:A < wl.heap.size:=Nat.lt_of_lt_of_le hAw hwl
 have h0w:w0.heap.size<=wl.heap.size:=Nat.le_trans hw0 hwl
 clear c7 f7
 go_loopw [4] (fun n0 wr=>∃ (d:List ByteArray) (st3:Option (List Int)) (t:Sl) (k:Nat),n0=.int .i64 k/\k<=65536/\Hid (d.length=k)/\Hid (∀ l,st3=some l->k+l.length<=65536)/\Hid (Pk wr A { p with id:=i,props:=s,filters:=t })/\Hid (wr.ownsRow wl.heap.size 9 1 t.val k (d.map Value.string))/\Hid (Acc text? st2 d st3)/\Hid (RP w0 wr R st3)/\Hid (B2 R A wl wr)) (fun _ wr=>mlp R wr)
 case atStart =>
  refine⟨[],st2,⟨none,0,0⟩,0,rfl,Nat.zero_le _,rfl,fun l hl=>by have:=(uh HL2) l hl;omega,?_,World.ownsRow_nil _ _ _ _,Acc.start _ _,uh HS2,B2.refl _ _ _⟩
  show Pk _ _ _
  have e:{ p with id:=i,props:=s,filters:=⟨none,0,0⟩ }={ p with id:=i,props:=s }:=by rw[<- uh HF]
  rw[e]
  exact uh HP2
 case round =>
  obtain⟨d,st3,⟨ta,tn,tc⟩,k,rfl,hk,HD,HLN,HPk,HOwn,HAcc,HRP,HBB⟩:=hrel
  go_wp2_with fail
  refine (more_pg R st3 w0 wr (uh HRP)).mono ?_
  rintro e wm ⟨rfl,hbm⟩
  cases hm:moreB st3
  ·have hwlR:R < w.heap.size:=hRw
   have hwlA:A < w.heap.size:=hAw
   have HEND:Hid (∀ b:Bool,(!(i == 0) && mc (k:Nat))=b->∀ W,(if b then W=wm else W=wm.setCell ⟨R,2,none⟩ (.bool true))->Listsfilters w0 R A p st w (.returned (.tuple #[])) W):=by
    intro b hb W hW
    have hO:wm.ownsRow wl.heap.size 9 1 (Sl.val ⟨ta,tn,tc⟩) d.length (d.map Value.string):=by rw[uh HD];exact owns_below (uh HOwn) hbm
    have hst:Stp (pglist? p.kind text?) st (i,x1,d) (if b then st3 else none):=(uh HST1).bind ((uh HST2).bind (((uh HAcc).done (moreB_no hm)).bind ((?_:Stp (mustR (!(i == 0) && mc d.length)) st3 () (if b then st3 else none)).bind (Stp.pure _ _))))
    ·have hBB:=(uh HBB).trans (B2.bel hbm)
     cases b
     ·obtain rfl:W=wm.setCell ⟨R,2,none⟩ (.bool true):=hW
      exact⟨rfl,i,s,x1,⟨ta,tn,tc⟩,d,none,((uh HPk).below hbm).blk (Below.heap_setCell _ _ _ _ hA),owns_b2 (uh HO2) (hBB.setR 2 _) hwlR hwlA,owns_mono (owns_b2 (A:=A) hO ((B2.refl R A wm).setR 2 _) hlt hla) hwl,hst,((uh HRP).below hbm).bad,(uh HB2).trans (hBB.setR 2 _)⟩
     ·obtain rfl:W=wm:=hW
      exact⟨rfl,i,s,x1,⟨ta,tn,tc⟩,d,st3,(uh HPk).below hbm,owns_b2 (uh HO2) hBB hwlR hwlA,owns_mono hO hwl,hst,(uh HRP).below hbm,(uh HB2).trans hBB⟩
    ·rw[uh HD,hb]
     exact Stp.must b st3
   obtain⟨bb,c2m,f2m,_⟩:=((uh HRP).below hbm).c2
   have c5m:=((uh HPk).below hbm).id
   simp only at c5m
   clear hm hbm HD HLN HPk HOwn HAcc HRP HBB
   by_cases hi0:i=0
   ·subst hi0
    go_wp2
    go_end0
    exact uh HEND false rfl _ rfl
   ·have hib:(i == 0)=false:=by simpa using hi0
    by_cases hk0:k=0
    ·subst hk0
     go_wp2
     go_end0
     exact uh HEND false (by rw[hib];rfl) _ rfl
    ·have hkb:((k:Int) == 0)=false:=by simp;omega
     by_cases hk16:16 < k
     ·go_wp2
      go_end0
      exact uh HEND false (by rw[hib];unfold mc;rw[decide_eq_false (show ¬ (k:Int)<=16 by omega)];simp) _ rfl
     ·go_wp2
      go_end0
      exact uh HEND true (by rw[hib];unfold mc;rw[decide_eq_true (show (1:Int)<=k by omega),decide_eq_true (show (k:Int)<=16 by omega)];rfl) _ rfl
  ·obtain⟨l,rfl,hl0⟩:=moreB_yes hm
   have hbd:=bel_drew wm
   have hbm':Below wr.heap.size wr wm.drew:=hbm.trans (hbd.mono hbm.size)
   have HPm:=zh ((uh HPk).below hbm)
   have HRPm:=zh ((uh HRP).below hbm)
   have HBBm:Hid (B2 R A wl wm):=(uh HBB).trans (B2.bel hbm)
   have HOm:Hid (wm.ownsRow wl.heap.size 9 1 (.slice ta tn tc) k (d.map Value.string)):=owns_below (uh HOwn) hbm
   have HPd:=zh ((uh HPk).below hbm')
   have HRPd:=zh ((uh HRP).below hbm')
   have HBBd:Hid (B2 R A wl wm.drew):=(uh HBB).trans (B2.bel hbm')
   have HOd:Hid (wm.drew.ownsRow wl.heap.size 9 1 (.slice ta tn tc) k (d.map Value.string)):=owns_below (uh HOwn) hbm'
   have c0:=(uh HPm).kind
   simp only at c0
   have cF:wm.cell? ⟨A,17,none⟩=some (.slice ta tn tc):=(uh HPm).filters
   rw[uh HK]at c0
   clear hbd hbm hbm' hm HPk HOwn HBB
   go_wp2_with fail
   refine wp_region_noPanic ?_
   refine wp_region_held_drew (S:=fun _=>True) (by kernel_rfl) trivial (fun hHeld=>?_)
   refine rtk 0 (h:=?_)
   refine rtk 1 (h:=?_)
   refine rtk 2 (h:=?_)
   refine rtk 3 (h:=?_)
   refine rtk 5 (h:=?_)
   refine wpAnyH_ready (rs:=[4,6]) (by kernel_rfl) (by simp) ?_
   refine rac (h:=fun K hK=>?ra) (hs:=(rac (h:=fun K hK=>?rb) (hs:=AllReadyH.nil)))
   case' ra =>
    go_simp
    refine hK.out _ _ trivial (fun hHeld=>?_)
    clear hK K
    refine rcl 6 (h:=fun K hK=>?_)
    go_simp
    refine (text_pg R (some l) w0 _ (uh HRPd)).mono ?_
    rintro e w4 ⟨x,st4,rfl,hs4,h4,hx4⟩
    have hp4:=(uh HPd).oth hx4 hA
    have cF4:w4.cell? ⟨A,17,none⟩=some (.slice ta tn tc):=hp4.filters
    have cF5:(w4.alloc (.cells #[.string x] 9)).cell? ⟨A,17,none⟩=some (.slice ta tn tc):=(World.cell?_alloc_lt _ _ ⟨A,17,none⟩ hp4.lt).trans cF4
    have HP4:=zh hp4
    have HRP4:=zh h4
    have HST4:=zh hs4
    have HBB4:Hid (B2 R A wl w4):=(uh HBBd).trans (B2.bx hx4)
    have HO4:Hid (w4.ownsRow wl.heap.size 9 1 (.slice ta tn tc) k (d.map Value.string)):=owns_b2 (A:=A) (uh HOd) (B2.bx hx4) hlt hla
    clear hx4 h4 hs4 hp4 HPd HRPd HBBd HOd
    refine hK.out _ _ trivial (fun hHeld=>?_)
    clear hK K
    refine rcl 7 (h:=fun K hK=>?_)
    go_simp
    refine hK.out _ _ trivial (fun hHeld=>?_)
    clear hK K
   case' rb =>
    go_simp
    refine (text_pg R (some l) w0 _ (uh HRPd)).mono ?_
    rintro e w4 ⟨x,st4,rfl,hs4,h4,hx4⟩
    have hp4:=(uh HPd).oth hx4 hA
    have cF4:w4.cell? ⟨A,17,none⟩=some (.slice ta tn tc):=hp4.filters
    have cF5:(w4.alloc (.cells #[.string x] 9)).cell? ⟨A,17,none⟩=some (.slice ta tn tc):=(World.cell?_alloc_lt _ _ ⟨A,17,none⟩ hp4.lt).trans cF4
    have HP4:=zh hp4
    have HRP4:=zh h4
    have HST4:=zh hs4
    have HBB4:Hid (B2 R A wl w4):=(uh HBBd).trans (B2.bx hx4)
    have HO4:Hid (w4.ownsRow wl.heap.size 9 1 (.slice ta tn tc) k (d.map Value.string)):=owns_b2 (A:=A) (uh HOd) (B2.bx hx4) hlt hla
    clear hx4 h4 hs4 hp4 HPd HRPd HBBd HOd
    refine hK.out _ _ trivial (fun hHeld=>?_)
    clear hK K
    refine wpAnyH_ready (rs:=[4,7]) (by kernel_rfl) (by simp) ?_
    refine rac (h:=fun K hK=>?rc) (hs:=(rac (h:=fun K hK=>?rd) (hs:=AllReadyH.nil)))
    case' rc =>
     go_simp
     refine hK.out _ _ trivial (fun hHeld=>?_)
     clear hK K
     refine rcl 7 (h:=fun K hK=>?_)
     go_simp
     refine hK.out _ _ trivial (fun hHeld=>?_)
     clear hK K
    case' rd =>
     go_simp
     refine hK.out _ _ trivial (fun hHeld=>?_)
     clear hK K
     refine rcl 4 (h:=fun K hK=>?_)
     go_simp
     refine hK.out _ _ trivial (fun hHeld=>?_)
     clear hK K
   all_goals (
    have hsz4:wl.heap.size<=w4.heap.size:=(uh HBB4).size
    refine rcl 8 (h:=fun K hK=>?_)
    refine step_append_run (Z:=fun v' w'=>w'.ownsRow wl.heap.size 9 1 v' (k+1) ((d.map Value.string)++[.string x])/\(w4.alloc (.cells #[.string x] 9)).grownBy w' (Value.slice ta tn tc).ownBlock) rfl _ _ 27 rfl (.slice ta tn tc) (.slice (some ⟨w4.heap.size,0,none⟩) 1 1) rfl rfl ?hr ?_
    case hr =>
     obtain⟨v6,w6,h1,h2,h3,_⟩:=run_append_own (P:=Tryz.prog) (w:=(w4.alloc (.cells #[.string x] 9))) wl.heap.size 27 27 9 i0 _ 1 16 Tryz.underlying27 hi0 hz0 hz1 hz2 rfl (by decide) (.slice ta tn tc) k _ ((uh HO4).alloc _) ⟨w4.heap.size,0,none⟩ 1 1 [.string x] rfl (one_cell _ _ _) (one_str _) (by unfold maxLen;omega) (by omega) (by simp;omega)
     exact⟨v6,w6,h1,h2,h3⟩
    rintro v6 w6 ⟨hO6,hg6⟩
    have hrow:∀ g,(Value.slice ta tn tc).ownBlock=some g->wl.heap.size<=g/\g < w4.heap.size:=fun g hg=>(uh HO4).lt g hg
    have hrR:(Value.slice ta tn tc).ownBlock≠some R:=fun e=>by have:=(hrow R e).1;omega
    have hrA:(Value.slice ta tn tc).ownBlock≠some A:=fun e=>by have:=(hrow A e).1;omega
    have HP6:Hid (Pk w6 A { p with id:=i,props:=s,filters:=⟨ta,tn,tc⟩ }):=((uh HP4).below (bal _ _)).grown hg6 hrA
    have HRP6:Hid (RP w0 w6 R st4):=((uh HRP4).below (bal _ _)).grown hg6 hrR (fun g hg=>Nat.le_trans h0w (hrow g hg).1)
    have HBB6:Hid (B2 R A wl w6):=((uh HBB4).trans (B2.bel (bal _ _))).grown hg6 (fun g hg=>(hrow g hg).1)
    obtain⟨⟨sa,sn,sc⟩,hv6,_⟩:=owns_sl hO6
    have hv6:v6=.slice sa sn sc:=hv6
    subst hv6
    have HO6:=zh hO6
    have cF6:w6.cell? ⟨A,17,none⟩=some (.slice ta tn tc):=(uh HP6).filters
    have fF6:w6.frozen? ⟨A,17,none⟩=false:=(uh HP6).filters_f
    clear hO6 hg6 hrow cF4 cF5 HP4 HRP4 HBB4
    refine hK.out _ _ trivial (fun hHeld=>?_)
    clear hK K
    simp only[Act.put,List.setIfInBounds_toArray,List.set_cons_zero,List.set_cons_succ]
    refine rtk 9 (h:=?_)
    refine rtk 10 (h:=?_)
    refine rcl 11 (h:=fun K hK=>?_)
    go_simp
    refine hK.out _ _ trivial (fun hHeld=>?_)
    clear hK K
    refine wpAnyH_done (by kernel_rfl) ?_ _
    refine NoPanic.normal ?_
    have HRP7:Hid (RP w0 (w6.setCell ⟨A,17,none⟩ (.slice sa sn sc)) R st4):=(uh HRP6).set A 17 _ hA hA0
    have HP7:Hid (Pk (w6.setCell ⟨A,17,none⟩ (.slice sa sn sc)) A { p with id:=i,props:=s,filters:=⟨sa,sn,sc⟩ }):=(uh HP6).set_filters ⟨sa,sn,sc⟩
    have HBB7:Hid (B2 R A wl (w6.setCell ⟨A,17,none⟩ (.slice sa sn sc))):=(uh HBB6).set 17 _
    have HO7:Hid ((w6.setCell ⟨A,17,none⟩ (.slice sa sn sc)).ownsRow wl.heap.size 9 1 (.slice sa sn sc) (k+1) ((d++[x]).map Value.string)):=by
     show World.ownsRow _ _ _ _ _ _ _
     rw[show ((d++[x]).map Value.string)=(d.map Value.string)++[.string x] from by simp]
     exact owns_b2 (R:=R) (uh HO6) ((B2.refl R A w6).set 17 _) hlt hla
    have HA7:Hid (Acc text? st2 (d++[x]) st4):=(uh HAcc).step text?_shr (uh HST4) hl0
    have HB7:Hid (∀ l',st4=some l'->(k+1)+l'.length<=65536):=by
     intro l' hl'
     subst hl'
     have h2:=stp_len text?_shr (uh HST4)
     have h3:=(uh HLN) l rfl
     omega
    have hM:mlp R (w6.setCell ⟨A,17,none⟩ (.slice sa sn sc)) < mlp R wr:=by
     rw[mlp_some (uh HRP)]
     cases st4 with
     | none=>rw[mlp_none (uh HRP7)];omega
     | some l' =>
      rw[mlp_some (uh HRP7)]
      have:=stp_len text?_shr (uh HST4)
      omega
    have hk1:k+1<=65536:=by
     have h3:=(uh HLN) l rfl
     have:=List.length_pos_iff.2 hl0
     omega
    have HD7:Hid ((d++[x]).length=k+1):=by show _=_;rw[List.length_append,uh HD];rfl
    clear HRP6 HP6 HBB6 HO6 cF6 fF6
    go_wp2
    go_roundw
    case rel=>exact⟨d++[x],st4,⟨sa,sn,sc⟩,k+1,by go_num,hk1,HD7,HB7,HP7,HO7,HA7,HRP7,HBB7⟩
    case measure=>exact hM)
theorem pglist_eq {α β:Type} (kind:Int) (f:List Int->Option (α×List Int)) (g:Int->List Pr->List α->β) (l:List Int):bindR (pglist? kind f) (fun r=>pureR (g r.1 r.2.1 r.2.2)) l=bindR id? (fun i=>bindR (props? kind) fun x=>bindR (list? f) fun d=>pureR (g i x d)) l:=by
 unfold pglist? list? id?
 simp only[bindR,mustR,pureR]
 cases two? l with
 | none=>rfl
 | some a =>
  simp only[Option.bind_some]
  by_cases hi:a.1=0
  ·simp only[hi,if_true,beq_self_eq_true,Bool.not_true,Bool.false_and,Bool.false_eq_true,if_false,Option.bind_none,bind_none']
  ·have hb:(a.1 == 0)=false:=by simpa using hi
   simp only[hi,if_false,hb,Bool.not_false,Bool.true_and,Option.bind_some]
   cases props? kind a.2 with
   | none=>rfl
   | some b =>
    simp only[Option.bind_some]
    cases manyR f b.2 with
    | none=>rfl
    | some c =>
     simp only[Option.bind_some]
     cases mc c.1.length
     ·rfl
     ·rfl
theorem body_10 (R A:Nat) (d:Bool) (q:Int) (r:Bool) (st:Option (List Int)) (w0:GW) (w:World) (h:RP w0 w R st) (hp:Pk w A (pk0 10 d q r)) (hA:A≠R) (hA0:w0.heap.size<=A) (hl:∀ l,st=some l->l.length<=65536):Calls Tryz.prog 53 #[.pointer (some ⟨R,0,none⟩),.pointer (some ⟨A,0,none⟩)] w (BodyPg w0 R A (pa0 10 d q r) st w):=by
 have hRw:=h.lt
 have hAw:=hp.lt
 have c0:=hp.kind
 simp only[pk0]at c0
 have HP:=zh hp
 have HS:=zh h
 clear hp h
 go_enter Tryz.func53,Tryz.ntmps53
 go_wp2_with fail
 refine (lists_filters R A _ st w0 w (uh HS) (uh HP) hA hA0 rfl hl rfl).mono ?_
 rintro e w1 ⟨rfl,i,s,x,t,dd,st1,hp1,hO1,hO2,hs1,h1,hb1⟩
 have HP1:=zh hp1
 have HS1:=zh h1
 have HST1:=zh hs1
 have HB1:=zh hb1
 clear hp1 h1 hs1 hb1
 go_wp2
 go_end0
 have k1:Stp (body? (pa0 10 d q r)) st { pa0 10 d q r with id:=i,props:=x,filters:=dd } st1:=Stp.congr (pglist_eq 10 text? fun i x dd=>({ pa0 10 d q r with id:=i,props:=x,filters:=dd }:Pa)) (Stp.bind (g:=fun (r':Int×List Pr×List ByteArray)=>pureR ({ pa0 10 d q r with id:=r'.1,props:=r'.2.1,filters:=r'.2.2 }:Pa)) (uh HST1) (Stp.pure _ _))
 exact⟨rfl,_,_,st1,uh HP1,k1,uh HS1,uh HB1,.inr ⟨⟨rfl,rfl,rfl,rfl,rfl,rfl,rfl,rfl,rfl,rfl,rfl,rfl⟩,uh hO1,wills0 _ _,row0 _ _ _ _,row0 _ _ _ _,row0 _ _ _ _,uh hO2,row0 _ _ _ _⟩⟩
end Go.Proofs.YtdkmmmjjdlnnoaaGreatDoor.K
namespace Go.Proofs.YtdkmmmjjdlnnoaaGreatDoor.K.B
open Go.RowKit
open Go.Proofs.YtdkmmmjjdlnnoaaGreatDoor.K
set_option maxRecDepth 100000
theorem RT.ebind {α β:Type} {f:List Int->Option (α×List Int)} {g:α->List Int->Option (β×List Int)} {ys zs:List Int} {x:α} {y:β} (h:RT f ys x) (k:ET (g x) zs y):ET (bindR f g) (ys++zs) y:=by
 unfold ET bindR
 rw[h]
 exact k
theorem rt_two {k:Int} (h:in16 k=true):RT two? (b2 k) k:=fun r=>by
 unfold in16 at h
 simp only[Bool.and_eq_true,decide_eq_true_eq]at h
 show some (k / 256 % 256 * 256+k % 256,r)=some (k,r)
 have:k / 256 % 256 * 256+k % 256=k:=by omega
 rw[this]
theorem rt_id {k:Int} (h:(in16 k && k != 0)=true):RT id? (b2 k) k:=fun r=>by
 rw[Bool.and_eq_true]at h
 have h2:=rt_two h.1 r
 unfold id?
 rw[h2]
 have h0:k≠0:=bne_iff_ne.1 h.2
 show (if k=0 then none else some (k,r))=_
 rw[if_neg h0]
theorem drop_tx (s:ByteArray) (r:List Int):(tx s++r).drop (((2+s.size:Nat):Int).toNat)=r:=by
 have:(((2+s.size:Nat):Int).toNat)=(tx s).length:=by rw[tx_length];rfl
 rw[this,List.drop_left]
theorem rt_text {s:ByteArray} (h:okT s=true):RT text? (tx s) s:=fun r=>by
 have e:=gt_tx s r (of_decide_eq_true h)
 unfold text?
 rw[e]
 show (if (0:Int)=0 then some (s,(tx s++r).drop (((2+s.size:Nat):Int).toNat)) else none)=_
 rw[if_pos rfl,drop_tx]
theorem rng_l {a b:List Int} (h:Rng (a++b)):Rng a:=fun j=>by
 by_cases hj:j < a.length
 ·have:=h j
  rw[List.getD_eq_getElem?_getD,List.getElem?_append_left hj,<- List.getD_eq_getElem?_getD]at this
  exact this
 ·rw[List.getD_eq_getElem?_getD,List.getElem?_eq_none (by omega)];simp
theorem many_back {α:Type} {f:List Int->Option (α×List Int)} {g:α->List Int->Option (List Int)} (hg:∀ a t l,g a t=some l->∃ ys,l=t++ys/\1<=ys.length/\RT f ys a) :
  ∀ (d:List α) (t l:List Int),sEach g d t=some l->∃ zs,l=t++zs/\∀ n,zs.length<=n->many f n zs=some (d,[])
 | [],t,l,h=>by
  cases h
  exact⟨[],by rw[List.append_nil],fun n _=>many_nil f n⟩
 | a :: r,t,l,h=>by
  unfold sEach at h
  cases hq:g a t with
  | none=>rw[hq]at h;cases h
  | some l1 =>
   rw[hq]at h
   obtain⟨ys,rfl,h1,hf⟩:=hg a t l1 hq
   obtain⟨zs,rfl,hz⟩:=many_back hg r (t++ys) l h
   refine⟨ys++zs,by rw[List.append_assoc],fun n hn=>?_⟩
   rw[List.length_append]at hn
   obtain⟨m,rfl⟩:∃ m,n=m+1:=⟨n - 1,by omega⟩
   have hne:ys++zs≠[]:=fun e=>by
    have:=congrArg List.length e
    rw[List.length_append,List.length_nil]at this
    omega
   unfold many
   rw[if_neg hne,hf]
   show (many f m zs).map _=_
   rw[hz m (by omega)]
   rfl
theorem list_back {α:Type} {f:List Int->Option (α×List Int)} {g:α->List Int->Option (List Int)} (hg:∀ a t l,g a t=some l->∃ ys,l=t++ys/\1<=ys.length/\RT f ys a) {d:List α} {t l:List Int} (h:sEach g d t=some l) (hm:mc d.length=true):∃ zs,l=t++zs/\ET (list? f) zs d:=by
 obtain⟨zs,rfl,hz⟩:=many_back hg d t l h
 refine⟨zs,rfl,?_⟩
 unfold ET list? bindR manyR
 rw[hz _ (Nat.le_refl _)]
 show (mustR (mc d.length) []).bind _=_
 unfold mustR
 rw[if_pos hm]
 rfl
theorem g_tx (s:ByteArray) (t l:List Int) (h:sTx s t=some l):∃ ys,l=t++ys/\1<=ys.length/\RT text? ys s:=by
 obtain⟨_,e,hc,rfl⟩:=add_inv (st:=some t) h
 cases e
 exact⟨_,rfl,by rw[tx_length];omega,rt_text hc⟩
end Go.Proofs.YtdkmmmjjdlnnoaaGreatDoor.K.B
namespace Go.Proofs.YtdkmmmjjdlnnoaaGreatDoor.K.B
open Go.RowKit
open Go.Proofs.YtdkmmmjjdlnnoaaGreatDoor.K
set_option maxRecDepth 100000
theorem sIdA_inv {P:Pa} {t:List Int} (h:sIdA P=some t):(in16 P.id && P.id != 0)=true/\t=b2 P.id:=by
 obtain⟨t1,e,hc,rfl⟩:=add_inv (st:=some []) h
 cases e
 exact⟨hc,rfl⟩
theorem sIpA_inv {P:Pa} {t:List Int} (h:sIpA P=some t):(in16 P.id && P.id != 0)=true/\okP P.kind P.props=true/\t=b2 P.id++pbs P.props:=by
 obtain⟨t1,h1,hc,rfl⟩:=add_inv h
 obtain⟨h2,rfl⟩:=sIdA_inv h1
 exact⟨h2,hc,rfl⟩
theorem back_10 {P:Pa} {l:List Int} (k:Int) (hkk:k=10) (hk:P.kind=k) (h:eb P=some l) (hr:Rng l):ET (body? (pa0 k false 0 false)) l P:=by
 unfold eb at h
 rw[if_neg (by omega),if_neg (by omega),if_neg (by omega),if_neg (by omega),if_neg (by omega),if_pos (by omega)]at h
 obtain⟨h1,he⟩:=must_inv h
 cases h2:(sIpA P).bind (sMust (mc P.filters.length)) with
 | none=>rw[h2]at h1;cases h1
 | some t =>
  rw[h2]at h1
  obtain⟨h3,hm⟩:=must_inv h2
  obtain⟨hid,hp,rfl⟩:=sIpA_inv h3
  obtain⟨zs,rfl,hz⟩:=list_back g_tx (show sEach sTx P.filters (b2 P.id++pbs P.props)=some l from h1) hm
  have hpr:=rt_props hp (rng_r (rng_l hr))
  rw[hk]at hpr
  have hri:=rt_id hid
  obtain⟨⟨e1,e2,e3,e4⟩,⟨e5,e6,e7,e8⟩,⟨e9,e10,e11⟩,e12,e13,e14,e15,e16,e17,e18⟩:=emp_inv he
  obtain⟨kind,dup,qos,retain,topic,id,payload,props,client,clean,keep,wills,user,pass,code,session,subs,filters,codes⟩:=P
  obtain rfl:dup=false:=e1
  obtain rfl:qos=0:=e5
  obtain rfl:retain=false:=e2
  obtain rfl:topic=⟨#[]⟩:=no_text e9
  obtain rfl:payload=⟨#[]⟩:=no_text e10
  obtain rfl:client=⟨#[]⟩:=no_text e11
  obtain rfl:clean=false:=e3
  obtain rfl:keep=0:=e7
  obtain rfl:wills=[]:=no_list e13
  obtain rfl:user=[]:=no_list e14
  obtain rfl:pass=[]:=no_list e15
  obtain rfl:code=0:=e8
  obtain rfl:session=false:=e4
  obtain rfl:subs=[]:=no_list e16
  obtain rfl:codes=[]:=no_list e18
  obtain rfl:kind=k:=hk
  dsimp only at *
  have e:body? (pa0 kind false 0 false)=bindR id? fun i=>bindR (props? kind) fun x=>bindR (list? text?) fun d=>pureR { (pa0 kind false 0 false)with id:=i,props:=x,filters:=d }:=by
   unfold body?
   have e0:(pa0 kind false 0 false).kind=kind:=rfl
   rw[e0,if_neg (by omega),if_neg (by omega),if_neg (by omega),if_neg (by omega),if_pos (by omega)]
   all_goals rfl
  rw[e,List.append_assoc]
  exact RT.ebind hri (RT.ebind hpr (hz.last _ rfl))
end Go.Proofs.YtdkmmmjjdlnnoaaGreatDoor.K.B
