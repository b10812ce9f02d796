/- Proved here: helpers, one text behind the other. -/
import Derived.Test.YtpheelbbpiieiaaGreatDoorZC19
import Derived.Test.YtpheelbbpiieiaaGreatDoorZC13
import Derived.Test.YtpheelbbpiieiaaGreatDoorZC17
set_option maxHeartbeats 20000000
namespace Go.Proofs.YtpheelbbpiieiaaGreatDoor
open Go.RowKit
set_option maxRecDepth 100000
def gval (k:Int) (l:List Int):Bool×Int×ByteArray×ByteArray×Nat :=
 if k=1\/k=2\/k=4 then (decide (k<=l.length),be k l,es,es,k.toNat)
 else if k=5 then (decide ((V.vget l).2.2=0),(V.vget l).1,es,es,(V.vget l).2.1.toNat)
 else if k=6 then (decide ((gt l).2.2=0),0,(gt l).1,es,(gt l).2.1.toNat)
 else if k=7 then (decide ((gbn l).2.2=0),0,(gbn l).1,es,(gbn l).2.1.toNat)
 else if k=8 then (decide ((gt l).2.2=0) && decide ((gt (l.drop (gt l).2.1.toNat)).2.2=0),0,(gt l).1,(gt (l.drop (gt l).2.1.toNat)).1,(gt l).2.1.toNat+(gt (l.drop (gt l).2.1.toNat)).2.1.toNat)
 else (false,0,es,es,0)
def gid (l:List Int):Int:=(V.vget l).1
def ghd (l:List Int):Nat:=(V.vget l).2.1.toNat
def grs (l:List Int):Bool×Int×ByteArray×ByteArray×Nat:=gval (kd (gid l)) (l.drop (ghd l))
def gok (l:List Int):Bool:=decide ((V.vget l).2.2=0) && (grs l).1
def gpr (l:List Int):Pr:=(gid l,(grs l).2.1,(grs l).2.2.1,(grs l).2.2.2.1)
def gsz (l:List Int):Nat:=ghd l+(grs l).2.2.2.2
def parse (l:List Int):Option (List Pr) :=
 if _h:l=[] then some [] else if gok l=true then (parse (l.drop (max 1 (gsz l)))).map (gpr l :: ·) else none
termination_by l.length
decreasing_by
 rw[List.length_drop]
 have:=List.length_pos_iff.2 _h
 omega
def Rng (l:List Int):Prop:=∀ j,0<=l.getD j 0/\l.getD j 0<=255
theorem Rng.drop {l:List Int} (h:Rng l) (k:Nat):Rng (l.drop k):=fun j=>by
 rw[List.getD_eq_getElem?_getD,List.getElem?_drop,<- List.getD_eq_getElem?_getD];exact h _
theorem vget_is (l:List Int) (hr:Rng l) (h:(V.vget l).2.2=0):V.vget l=(gid l,(ghd l:Int),0)/\1<=ghd l/\ghd l<=l.length/\0<=gid l/\gid l<=268435455/\V.put (gid l)=l.take (ghd l):=by
 obtain⟨n,k,e,he⟩:∃ n k e,V.vget l=(n,k,e):=⟨_,_,_,rfl⟩
 rw[he]at h
 simp only at h
 subst h
 obtain⟨h0,h1,K,rfl,h2,h3,h4⟩:=V.vget_ok l hr n k he
 have e1:gid l=n:=by unfold gid;rw[he]
 have e2:ghd l=K:=by unfold ghd;rw[he];simp
 rw[e1,e2]
 exact⟨he,h2,h3,h0,h1,h4⟩
theorem gt_is (l:List Int) (h:(gt l).2.2=0):gt l=((gt l).1,(((gt l).2.1.toNat:Nat):Int),0)/\2<=(gt l).2.1.toNat/\(gt l).2.1.toNat<=l.length/\utf (sb (gt l).1)=true/\(gt l).1=gbs l:=by
 rcases gt_cases l with⟨s,K,hf,hu,rfl,rfl,hg⟩ | ⟨m,hm,hg⟩
 ·rw[hg]
  unfold full at hf
  rw[Bool.and_eq_true,decide_eq_true_eq,decide_eq_true_eq]at hf
  refine⟨by rw[Int.toNat_natCast],?_,?_,hu,rfl⟩
  ·show 2<=((2+nb l:Nat):Int).toNat
   omega
  ·show ((2+nb l:Nat):Int).toNat<=_
   omega
 ·rw[hg]at h
  exact absurd h hm
theorem gbn_is (l:List Int) (h:(gbn l).2.2=0):gbn l=((gbn l).1,(((gbn l).2.1.toNat:Nat):Int),0)/\2<=(gbn l).2.1.toNat/\(gbn l).2.1.toNat<=l.length/\(gbn l).1=gbs l:=by
 unfold gbn at *
 by_cases hf:full l=true
 ·rw[if_pos hf]at h |-
  unfold full at hf
  rw[Bool.and_eq_true,decide_eq_true_eq,decide_eq_true_eq]at hf
  refine⟨by rw[Int.toNat_natCast],?_,?_,rfl⟩
  ·show 2<=((2+nb l:Nat):Int).toNat
   omega
  ·show ((2+nb l:Nat):Int).toNat<=_
   omega
 ·rw[if_neg hf]at h
  simp at h
theorem gval_le (k:Int) (l:List Int) (hr:Rng l) (h:(gval k l).1=true):(gval k l).2.2.2.2<=l.length:=by
 unfold gval at h |-
 by_cases k1:k=1\/k=2\/k=4
 ·rw[if_pos k1]at h |-
  simp only[decide_eq_true_eq]at h |-
  omega
 rw[if_neg k1]at h |-
 by_cases k5:k=5
 ·rw[if_pos k5]at h |-
  simp only[decide_eq_true_eq]at h |-
  exact (vget_is l hr h).2.2.1
 rw[if_neg k5]at h |-
 by_cases k6:k=6
 ·rw[if_pos k6]at h |-
  simp only[decide_eq_true_eq]at h |-
  exact (gt_is l h).2.2.1
 rw[if_neg k6]at h |-
 by_cases k7:k=7
 ·rw[if_pos k7]at h |-
  simp only[decide_eq_true_eq]at h |-
  exact (gbn_is l h).2.2.1
 rw[if_neg k7]at h |-
 by_cases k8:k=8
 ·rw[if_pos k8]at h |-
  simp only[Bool.and_eq_true,decide_eq_true_eq]at h |-
  have a:=(gt_is l h.1).2.2.1
  have b:=(gt_is _ h.2).2.2.1
  rw[List.length_drop]at b
  omega
 rw[if_neg k8]at h
 simp at h
theorem gok_le (l:List Int) (hr:Rng l) (h:gok l=true):1<=gsz l/\gsz l<=l.length/\0<=gid l/\gid l<=268435455:=by
 unfold gok at h
 rw[Bool.and_eq_true,decide_eq_true_eq]at h
 obtain⟨_,a,b,c,d,_⟩:=vget_is l hr h.1
 have e:=gval_le _ _ (hr.drop (ghd l)) h.2
 rw[List.length_drop]at e
 unfold gsz grs
 omega
theorem parse_nil:parse []=some []:=by rw[parse,dif_pos rfl]
theorem parse_no (l:List Int) (h:l≠[]) (hg:gok l=false):parse l=none:=by rw[parse,dif_neg h,if_neg (by rw[hg];decide)]
theorem parse_yes (l:List Int) (h:l≠[]) (hr:Rng l) (hg:gok l=true):parse l=(parse (l.drop (gsz l))).map (gpr l :: ·):=by
 rw[parse,dif_neg h,if_pos hg,Nat.max_eq_right (gok_le l hr hg).1]
theorem getOne_good (v:Value) (l:List Int) (w:World) (h:Byt w v l) (hg:gok l=true):Calls Tryz.prog 144 #[v] w (GoOk (gpr l) (gsz l) w):=by
 have hr:=h.range
 have hle:=gok_le l hr hg
 unfold gok at hg
 rw[Bool.and_eq_true,decide_eq_true_eq]at hg
 obtain⟨hv,a,b,c,d,_⟩:=vget_is l hr hg.1
 have hg2:=hg.2
 have hl:=gval_le _ _ (Rng.drop hr (ghd l)) hg2
 rw[List.length_drop]at hl
 unfold gpr gsz
 refine gone_ok v l w h (gid l) (ghd l) hv ⟨a,b⟩ (frm (gid l)) (wid (gid l)) (lst (gid l)) (mx (gid l)) rfl _ _ _ _ (by unfold grs;omega) ?_
 intro vb W hb
 have hfrm:frm (gid l)=(if kd (gid l)=1\/kd (gid l)=2\/kd (gid l)=4 then 1 else if kd (gid l)=5 then 2 else if kd (gid l)=6 then 3 else if kd (gid l)=7 then 4 else if kd (gid l)=8 then 5 else 0):=rfl
 have hwid:wid (gid l)=(if kd (gid l)=1\/kd (gid l)=2\/kd (gid l)=4 then kd (gid l) else 0):=rfl
 have hr':=Rng.drop hr (ghd l)
 unfold grs at hg2 |-
 generalize kd (gid l)=k at hg2 hfrm hwid |-
 generalize l.drop (ghd l)=m at hg2 hb hr' |-
 rw[hfrm,hwid]
 clear hfrm hwid
 unfold gval at hg2 |-
 by_cases k1:k=1\/k=2\/k=4
 ·rw[if_pos k1]at hg2 |-
  rw[if_pos k1,if_pos k1]
  simp only[decide_eq_true_eq]at hg2 |-
  have:=gval_num vb m W hb k (lst (gid l)) (mx (gid l)) k1 hg2
  rw[show ((k.toNat:Nat):Int)=k from by omega]
  exact this
 rw[if_neg k1]at hg2 |-
 rw[if_neg k1,if_neg k1]
 by_cases k5:k=5
 ·rw[if_pos k5]at hg2 |-
  rw[if_pos k5]
  simp only[decide_eq_true_eq]at hg2 |-
  obtain⟨hv',_⟩:=vget_is m hr' hg2
  exact gval_var vb m W hb _ _ _ _ _ hv'
 rw[if_neg k5]at hg2 |-
 rw[if_neg k5]
 by_cases k6:k=6
 ·rw[if_pos k6]at hg2 |-
  rw[if_pos k6]
  simp only[decide_eq_true_eq]at hg2 |-
  exact gval_text vb m W hb _ _ _ _ _ (gt_is m hg2).1
 rw[if_neg k6]at hg2 |-
 rw[if_neg k6]
 by_cases k7:k=7
 ·rw[if_pos k7]at hg2 |-
  rw[if_pos k7]
  simp only[decide_eq_true_eq]at hg2 |-
  exact gval_bin vb m W hb _ _ _ _ _ (gbn_is m hg2).1
 rw[if_neg k7]at hg2 |-
 rw[if_neg k7]
 by_cases k8:k=8
 ·rw[if_pos k8]at hg2 |-
  rw[if_pos k8]
  simp only[Bool.and_eq_true,decide_eq_true_eq]at hg2 |-
  obtain⟨e1,e2,e3,_⟩:=gt_is m hg2.1
  obtain⟨f1,f2,f3,_⟩:=gt_is _ hg2.2
  rw[List.length_drop]at f3
  exact gval_pair vb m W hb _ _ _ _ _ _ _ e1 f1 ⟨e2,e3⟩ (by omega)
 rw[if_neg k8]at hg2
 simp at hg2
theorem getOne_fail (v:Value) (l:List Int) (w:World) (h:Byt w v l) (hg:gok l=false):Calls Tryz.prog 144 #[v] w (GvBad w):=by
 have hr:=h.range
 by_cases hv0:(V.vget l).2.2=0
 ·obtain⟨hv,a,b,c,d,_⟩:=vget_is l hr hv0
  have hg2:(grs l).1=false:=by
   unfold gok at hg
   rw[hv0]at hg
   simpa using hg
  refine gone_bad2 v l w h (gid l) (ghd l) hv ⟨a,b⟩ (frm (gid l)) (wid (gid l)) (lst (gid l)) (mx (gid l)) rfl ?_
  intro vb W hb
  have hfrm:frm (gid l)=(if kd (gid l)=1\/kd (gid l)=2\/kd (gid l)=4 then 1 else if kd (gid l)=5 then 2 else if kd (gid l)=6 then 3 else if kd (gid l)=7 then 4 else if kd (gid l)=8 then 5 else 0):=rfl
  have hwid:wid (gid l)=(if kd (gid l)=1\/kd (gid l)=2\/kd (gid l)=4 then kd (gid l) else 0):=rfl
  unfold grs at hg2
  generalize kd (gid l)=k at hg2 hfrm hwid |-
  generalize l.drop (ghd l)=m at hg2 hb
  rw[hfrm,hwid]
  clear hfrm hwid
  unfold gval at hg2
  by_cases k1:k=1\/k=2\/k=4
  ·rw[if_pos k1]at hg2
   rw[if_pos k1,if_pos k1]
   simp only[decide_eq_false_iff_not]at hg2
   exact gval_num_bad vb m W hb k _ _ (by omega)
  rw[if_neg k1]at hg2
  rw[if_neg k1,if_neg k1]
  by_cases k5:k=5
  ·rw[if_pos k5]at hg2
   rw[if_pos k5]
   simp only[decide_eq_false_iff_not]at hg2
   exact gval_var_bad vb m W hb _ _ _ _ rfl hg2
  rw[if_neg k5]at hg2
  rw[if_neg k5]
  by_cases k6:k=6
  ·rw[if_pos k6]at hg2
   rw[if_pos k6]
   simp only[decide_eq_false_iff_not]at hg2
   exact gval_text_bad vb m W hb _ _ _ _ rfl hg2
  rw[if_neg k6]at hg2
  rw[if_neg k6]
  by_cases k7:k=7
  ·rw[if_pos k7]at hg2
   rw[if_pos k7]
   simp only[decide_eq_false_iff_not]at hg2
   exact gval_bin_bad vb m W hb _ _ _ _ rfl hg2
  rw[if_neg k7]at hg2
  rw[if_neg k7]
  by_cases k8:k=8
  ·rw[if_pos k8]at hg2
   rw[if_pos k8]
   by_cases h1:(gt m).2.2=0
   ·obtain⟨e1,e2,e3,_⟩:=gt_is m h1
    have h2:¬ (gt (m.drop (gt m).2.1.toNat)).2.2=0:=by
     rw[h1]at hg2
     simpa using hg2
    exact gval_pair_bad vb m W hb _ _ _ (fun W' hb'=>gpair_bad2 vb m W' hb' _ _ e1 ⟨e2,e3⟩ _ rfl h2)
   ·exact gval_pair_bad vb m W hb _ _ _ (fun W' hb'=>gpair_bad1 vb m W' hb' _ rfl h1)
  rw[if_neg k8]
  exact gval_none vb m W hb _ _ _
 ·exact gone_bad1 v l w h _ rfl hv0
theorem gpr_txo (l:List Int) (hr:Rng l) (h:gok l=true):txo (gpr l)=true/\(gpr l).2.2.1.size<=65535/\(gpr l).2.2.2.size<=65535:=by
 unfold gok at h
 rw[Bool.and_eq_true,decide_eq_true_eq]at h
 have hg2:=h.2
 have hr':=hr.drop (ghd l)
 unfold gpr txo
 simp only
 unfold grs at hg2 |-
 generalize kd (gid l)=k at hg2 |-
 generalize l.drop (ghd l)=m at hg2 hr' |-
 have hes:es.size<=65535:=by decide
 have key:∀ s:ByteArray,utf (sb s)=true->s.size<=65535->chk (sb s)=0:=fun s a b=>by
  unfold chk
  rw[if_pos a,if_pos (by rw[sb_length];exact b)]
 unfold gval at hg2 |-
 by_cases k1:k=1\/k=2\/k=4
 ·rw[if_pos k1]
  rw[if_neg (by omega),if_neg (by omega),if_neg (by omega)]
  exact⟨by simp;omega,hes,hes⟩
 rw[if_neg k1]at hg2 |-
 by_cases k5:k=5
 ·rw[if_pos k5]
  rw[if_neg (by omega),if_neg (by omega),if_neg (by omega)]
  exact⟨by simp;omega,hes,hes⟩
 rw[if_neg k5]at hg2 |-
 by_cases k6:k=6
 ·rw[if_pos k6]at hg2 |-
  simp only[decide_eq_true_eq]at hg2 |-
  rw[if_pos k6]
  obtain⟨_,_,_,hu,hs⟩:=gt_is m hg2
  have hz:(gt m).1.size<=65535:=by rw[hs];exact gbs_size m hr'
  exact⟨key _ hu hz,hz,hes⟩
 rw[if_neg k6]at hg2 |-
 by_cases k7:k=7
 ·rw[if_pos k7]at hg2 |-
  simp only[decide_eq_true_eq]at hg2 |-
  rw[if_neg k6,if_pos k7]
  obtain⟨_,_,_,hs⟩:=gbn_is m hg2
  have hz:(gbn m).1.size<=65535:=by rw[hs];exact gbs_size m hr'
  exact⟨hz,hz,hes⟩
 rw[if_neg k7]at hg2 |-
 by_cases k8:k=8
 ·rw[if_pos k8]at hg2 |-
  simp only[Bool.and_eq_true,decide_eq_true_eq]at hg2 |-
  rw[if_neg k6,if_neg k7,if_pos k8]
  obtain⟨_,_,_,hu,hs⟩:=gt_is m hg2.1
  obtain⟨_,_,_,hu2,hs2⟩:=gt_is _ hg2.2
  have hz:(gt m).1.size<=65535:=by rw[hs];exact gbs_size m hr'
  have hz2:(gt (m.drop (gt m).2.1.toNat)).1.size<=65535:=by rw[hs2];exact gbs_size _ (hr'.drop _)
  exact⟨⟨key _ hu hz,key _ hu2 hz2⟩,hz,hz2⟩
 rw[if_neg k8]at hg2
 simp at hg2
theorem at0_app (d e:List Pr) (i:Nat) (h:i < d.length):at0 (d++e) i=at0 d i:=by
 unfold at0
 rw[List.getD_eq_getElem?_getD,List.getElem?_append_left h,<- List.getD_eq_getElem?_getD]
theorem at0_mid (d e:List Pr) (p:Pr):at0 (d++p :: e) d.length=p:=by
 unfold at0
 simp
def sn (d:List Pr) (id:Int):Bool:=d.any fun q=>decide (q.1=id)
theorem seen_app (d e:List Pr) (i:Nat) (h:i<=d.length) (id:Int):seen (d++e) i id=seen d i id:=by
 unfold seen
 rw[List.take_append_of_le_length h]
theorem okAt_app (place:Int) (d e:List Pr) (i:Nat) (h:i < d.length):okAt place (d++e) i=okAt place d i:=by
 unfold okAt
 rw[at0_app d e i h,seen_app d e i (by omega)]
theorem okAt_mid (place:Int) (d e:List Pr) (p:Pr):okAt place (d++p :: e) d.length=(tk place p.1 p.2.1 p.2.2.1 p.2.2.2 (sn d p.1) && txo p):=by
 rw[okAt_tk,at0_mid,seen_app d _ _ (Nat.le_refl _)]
 unfold seen sn
 rw[List.take_length]
theorem sn_snoc (d:List Pr) (p:Pr) (id:Int):sn (d++[p]) id=(sn d id || decide (p.1=id)):=by
 unfold sn
 rw[List.any_append];simp
def rdn (place:Int) (l:List Int):Int:=match parse l with
 | none=>1
 | some q=>chkP place q
theorem rdn_none (place:Int) (l:List Int) (h:parse l=none):rdn place l=1:=by unfold rdn;rw[h]
theorem rdn_some (place:Int) (l:List Int) (q:List Pr) (h:parse l=some q):rdn place l=chkP place q:=by unfold rdn;rw[h]
theorem rdn_bad (place:Int) (l r:List Int) (d:List Pr) (p:Pr) (h:parse l=(parse r).map ((d++[p])++·)) (hp:okAt place (d++[p]) d.length=false):rdn place l=1:=by
 cases hr:parse r with
 | none=>rw[hr]at h;exact rdn_none place l h
 | some q =>
  rw[hr]at h
  rw[rdn_some place l _ h]
  refine chkP_bad place _ d.length (by simp) ?_
  rw[okAt_app place (d++[p]) q d.length (by simp)]
  exact hp
def lenOf:Value->Nat
 | .slice _ n _=>n
 | _=>0
def ReadPost (place:Int) (l:List Int) (w:World) (e:Ending) (w':World):Prop :=
 (∃ q v,parse l=some q/\okTo place q q.length/\e=.returned (.tuple #[v,.int .i64 q.length,.nilIface])/\Hid (w'.ownsRow w.heap.size 109 4 v (min q.length 32) (pcs (q.take 32)))/\Below w.heap.size w w') \/
 (rdn place l=1/\∃ E,e=.returned (.tuple #[.slice none 0 0,.int .i64 0,.iface 118 E])/\Hid (ErrP w' (.iface 118 E) 1)/\Below w.heap.size w w')
theorem pcs_app (d:List Pr) (p:Pr):pcs (d++[p])=pcs d++[.int .i64 p.1,.int .i64 p.2.1,.string p.2.2.1,.string p.2.2.2]:=by unfold pcs;simp
theorem okTo_snoc (place:Int) (d:List Pr) (p:Pr) (h:okTo place d d.length) (hp:okAt place (d++[p]) d.length=true):okTo place (d++[p]) (d++[p]).length:=by
 intro i hi
 rw[List.length_append,List.length_singleton]at hi
 rcases Nat.lt_or_ge i d.length with a | a
 ·rw[okAt_app place d [p] i a];exact h i a
 ·obtain rfl:i=d.length:=by omega
  exact hp
theorem read_any (v:Value) (l:List Int) (place:Int) (w:World) (h:Byt w v l) :
  Calls Tryz.prog 119 #[v,.int .i64 place] w (ReadPost place l w):=by
 obtain⟨i0,hi,hz0,hz1,hz2⟩:=info_parts Tryz.infoProp
 obtain⟨ao,cap,rfl,hc1,hc2⟩:=h.form
 unfold maxLen at hc2
 have HV:=zh h
 clear h
 generalize hn:l.length=n at hc1 HV
 have HN:=zh hn
 clear hn
 go_enter Tryz.func119,Tryz.ntmps119
 iterate 19 go_step
 refine wpList_value rfl (row_build _ _ _ _ _ _ place rfl _) ?_
 simp only[Act.put,List.setIfInBounds_toArray,List.set_cons_zero,List.set_cons_succ]
 refine wpList_value rfl (row_alloc _ _ _ _ _ _) ?_
 simp only[Act.put,List.setIfInBounds_toArray,List.set_cons_zero,List.set_cons_succ]
 refine wpList_skip rfl (row_store _ _ _ _ _ _ _ place _ rfl rfl) ?_
 simp only[Act.put]
 go_wp2
 have hR0:Hid (RowAt (w.alloc (.cells (rowA place) 204)) w.heap.size place (fun _=>false)):=rowAt_new w place
 go_loopw [0,4,5] (fun b0 l0 c0 wr=>∃ (bv lv:Value) (rest:List Int) (d:List Pr) (k m:Nat),b0=bv/\l0=lv/\c0=.int .i64 k/\m+k<=n/\Hid (d.length=k)/\Hid (rest.length=m)/\Hid (Byt w bv rest)/\Hid (parse l=(parse rest).map (d++·))/\Hid (okTo place d d.length)/\Hid (RowAt wr w.heap.size place (fun j=>sn d j))/\Hid (wr.ownsRow (w.heap.size+1) 109 4 lv (min k 32) (pcs (d.take 32)))/\Below w.heap.size w wr) (fun b0 _ _ _=>lenOf b0)
 case atStart =>
  refine⟨_,_,l,[],0,n,rfl,rfl,rfl,by omega,rfl,uh HN,uh HV,?_,okTo_zero _ _,(uh hR0).congr (fun j _=>rfl),?_,bal _ _⟩
  ·show parse l=_
   cases parse l <;> simp
  ·exact World.ownsRow_nil _ _ _ _
 case round =>
  obtain⟨_,_,rest,d,k,m,rfl,rfl,rfl,hmk,HD,HM,HY,HP,HOK,HROW,HOWN,hbel⟩:=hrel
  clear hR0
  have hsz:=hbel.size
  have hRl:=(uh HROW).lt
  obtain⟨ao2,cap2,hu0,hcc1,hcc2⟩:=(uh HY).form
  unfold maxLen at hcc2
  rw[uh HM]at hu0 hcc1
  by_cases hm0:m=0
  ·subst hu0
   subst hm0
   have HPA:Hid (parse l=some d):=by
    have hr0:rest=[]:=List.length_eq_zero_iff.1 (uh HM)
    have:=uh HP
    rw[hr0,parse_nil]at this
    show parse l=some d
    simpa using this
   have HO2:Hid (wr.ownsRow w.heap.size 109 4 u4 (min d.length 32) (pcs (d.take 32))):=by
    show World.ownsRow _ _ _ _ _ _ _
    rw[uh HD]
    exact owns_mono (uh HOWN) (by omega)
   have HDD:Hid ((k:Int)=(d.length:Int)):=by show _=_;rw[uh HD]
   go_wp2
   go_returns
   exact .inl ⟨d,_,uh HPA,uh HOK,by rw[<- uh HDD];rfl,HO2,hbel⟩
  ·have HNE:Hid (rest≠[]):=by
    intro e
    have:=uh HM
    rw[e]at this
    simp at this
    omega
   have hbel':=zh hbel
   have HY':Hid (Byt wr u0 rest):=(uh HY).below hbel
   have HYW:Hid (Byt w u0 rest):=HY
   obtain⟨b,off,cap3,hu1,-,-⟩:=(uh HY).form1 (by rw[uh HM];omega)
   rw[hu0]at hu1
   simp only[Value.slice.injEq]at hu1
   obtain⟨rfl,-,rfl⟩:=hu1
   subst hu0
   clear hbel HY
   cases hgk:gok rest
   ·have HC:Hid (rdn place l=1):=rdn_none place l (by rw[uh HP,parse_no rest (uh HNE) hgk];rfl)
    have HGK:=zh hgk
    clear hgk
    go_wp2_with fail
    refine (getOne_fail _ rest _ (uh HY') (uh HGK)).mono ?_
    rintro e w2 ⟨i2,n2,s2,t2,k2,ty2,x2,m2,rfl,hin2,hb2⟩
    have HB2:Hid (Below w.heap.size w w2):=(uh hbel').trans (hb2.mono hsz)
    have hs2:=(uh HB2).size
    go_wp2_with fail
    refine (broken_use _ m2 _ ((uh hin2).below (bal _ _))).mono ?_
    rintro e w4 ⟨E,rfl,hE,hb4⟩
    go_wp2
    go_returns
    exact .inr ⟨uh HC,_,rfl,hE,((uh HB2).alloc hs2 _).trans (hb4.mono (by simp;omega))⟩
   ·have hr:=(uh HY').range
    obtain⟨hg1,hg2,hg3,hg4⟩:=gok_le rest hr hgk
    rw[uh HM]at hg2
    have HTX:=zh (gpr_txo rest hr hgk)
    have HPY:=zh (parse_yes rest (uh HNE) hr hgk)
    have HG1:=zh (getOne_good _ rest _ (uh HY') hgk)
    clear hr hgk
    generalize hz:gsz rest=z at hg1 hg2 HPY HG1
    clear hz
    obtain⟨id,N,s,t,hp⟩:∃ id N s t,gpr rest=(id,N,s,t):=⟨_,_,_,_,rfl⟩
    have hid:id=gid rest:=by have:=congrArg Prod.fst hp;exact this.symm
    rw[<- hid]at hg3 hg4
    rw[hp]at HTX HPY HG1
    clear hp hid
    have HP2:Hid (parse l=(parse (rest.drop z)).map ((d++[(id,N,s,t)])++·)):=by
     show _=_
     rw[uh HP,uh HPY,Option.map_map]
     congr 1
     funext x
     simp
    clear HPY HP
    go_wp2_with fail
    refine (uh HG1).mono ?_
    rintro e w2 ⟨rfl,hb2⟩
    have HB2:Hid (Below w.heap.size w w2):=(uh hbel').trans (hb2.mono hsz)
    have hs2:=(uh HB2).size
    have HROW2:Hid (RowAt w2 w.heap.size place (fun j=>sn d j)):=(uh HROW).below hb2
    have HOWN2:Hid (w2.ownsRow (w.heap.size+1) 109 4 u4 (min k 32) (pcs (d.take 32))):=owns_below (uh HOWN) hb2
    have hRl2:=(uh HROW2).lt
    clear hb2 HROW HOWN HY' hbel' HG1
    have HOT:=zh (okAt_mid place d [] (id,N,s,t))
    cases htk:tk place id N s t (sn d id)
    ·have HC:Hid (rdn place l=1):=rdn_bad place l _ d _ (uh HP2) ((uh HOT).trans (by simp only[htk,Bool.false_and]))
     have HTK:=zh (tk_toNat (sn d) htk)
     clear htk HOT
     go_wp2_with fail
     refine (take_bad w.heap.size place id N s t (fun j=>sn d j) _ ((uh HROW2).below (bal _ _)) (uh HTK)).mono ?_
     rintro e w3 ⟨E,rfl,hE,hb3⟩
     go_wp2
     go_returns
     exact .inr ⟨uh HC,_,rfl,hE,((uh HB2).alloc hs2 _).trans (hb3.mono (by simp;omega))⟩
    ·obtain⟨hmst,hfit⟩:=tk_mst htk
     obtain⟨hi1,hi2⟩:=id_range id place hmst
     obtain⟨q,rfl⟩:∃ q:Nat,id=q:=⟨id.toNat,by omega⟩
     have HOKM:Hid (okAt place (d++[((q:Int),N,s,t)]) d.length=true):=(uh HOT).trans (by simp only[htk,Bool.true_and];exact (uh HTX).1)
     have HOK2:Hid (okTo place (d++[((q:Int),N,s,t)]) (d++[((q:Int),N,s,t)]).length):=okTo_snoc place d _ (uh HOK) (uh HOKM)
     have HTK:=zh htk
     have HG:Hid (∀ j:Nat,j<=42->(sn d (j:Int) || decide (q=j))=sn (d++[((q:Int),N,s,t)]) (j:Int)):=fun j _=>by
      rw[sn_snoc,show decide (((q:Int),N,s,t).1=(j:Int))=decide (q=j) from by rw[decide_eq_decide];constructor <;> intro h <;> omega]
     clear htk hmst hfit HOT HOKM HOK
     go_wp2_with fail
     refine (take_use w.heap.size q place N s t (fun j=>sn d j) (fun j=>sn (d++[((q:Int),N,s,t)]) j) _ (by omega) ((uh HROW2).below (bal _ _)) (uh HTK) (uh HG) w.heap.size (Nat.le_refl _)).mono ?_
     rintro e w3 ⟨rfl,HROW3,hb3,HOWT,HCT⟩
     have d0:w3.cell? ⟨w2.heap.size,0,none⟩=some (.int .i64 (q:Int)):=((uh HCT) w2.heap.size 0 (by omega) (by simp)).trans (by simp)
     have d1:w3.cell? ⟨w2.heap.size,1,none⟩=some (.int .i64 N):=((uh HCT) w2.heap.size 1 (by omega) (by simp)).trans (by simp)
     have d2:w3.cell? ⟨w2.heap.size,2,none⟩=some (.string s):=((uh HCT) w2.heap.size 2 (by omega) (by simp)).trans (by simp)
     have d3:w3.cell? ⟨w2.heap.size,3,none⟩=some (.string t):=((uh HCT) w2.heap.size 3 (by omega) (by simp)).trans (by simp)
     have HOWN3:Hid (w3.ownsRow (w.heap.size+1) 109 4 u4 (min k 32) (pcs (d.take 32))):=(uh HOWT) _ _ _ _ _ _ (by omega) ((uh HOWN2).alloc _)
     have HB3:Hid (Below w.heap.size w w3):=((uh HB2).alloc hs2 _).trans hb3
     have hs3:w.heap.size+1<=w3.heap.size:=by have:=(uh HROW3).lt;omega
     clear hb3 HOWT HCT HOWN2 HROW2 HG HTK HB2
     have HLEN2:Hid ((d++[((q:Int),N,s,t)]).length=k+1):=by show _=_;rw[List.length_append,uh HD];rfl
     by_cases h32:k < 32
     ·have HM1:Hid (min k 32=k):=Nat.min_eq_left (by omega)
      have HM2:Hid (min (k+1) 32=k+1):=Nat.min_eq_left (by omega)
      have HT1:Hid (d.take 32=d):=List.take_of_length_le (by rw[uh HD];omega)
      have HT2:Hid ((d++[((q:Int),N,s,t)]).take 32=d++[((q:Int),N,s,t)]):=List.take_of_length_le (by rw[uh HLEN2];omega)
      rw[uh HM1,uh HT1]at HOWN3
      go_wp2_with (first
       | (at_builtin;refine wpList_append_own _ rfl _ _ 23 rfl (w.heap.size+1) 109 i0 _ 4 48 Tryz.underlying23 hi hz0 hz1 hz2 rfl (by decide) _ _ _ rfl ((uh HOWN3).alloc _) ⟨w3.heap.size,0,none⟩ 1 1 [.int .i64 (q:Int),.int .i64 N,.string s,.string t] rfl rfl (four_cell _ _ _ _ _ _) (four_one _ _ _ _) (by unfold maxLen;omega) (by omega) (by simp;omega) ?_)
       | go_in)
      intro v4 w4 hown4 hgrow4 _
      have HB4:Hid (Below w.heap.size w w4):=((uh HB3).alloc (uh HB3).size _).grown hgrow4 (by simp;omega) (fun g hg=>by have:=((uh HOWN3).lt g hg).1;omega)
      have HROW4:Hid (RowAt w4 w.heap.size place (fun j=>sn (d++[((q:Int),N,s,t)]) j)):=row_grown ((uh HROW3).below (bal _ _)) hgrow4 (fun g hg=>by have:=((uh HOWN3).lt g hg).1;omega)
      have HOWN4:Hid (w4.ownsRow (w.heap.size+1) 109 4 v4 (min (k+1) 32) (pcs ((d++[((q:Int),N,s,t)]).take 32))):=by
       show World.ownsRow _ _ _ _ _ _ _
       rw[uh HM2,uh HT2,pcs_app]
       exact hown4
      clear hown4 hgrow4 HOWN3 HROW3 d0 d1 d2 d3
      by_cases hcz:cap2=z
      ·have hm1:m=cap2:=by omega
       have hm2:m=z:=by omega
       clear hcz
       subst hm1
       subst hm2
       have HBD:Hid (Byt w (.slice (some ⟨b,off,none⟩) 0 0) (rest.drop m)):=by
        show Byt _ _ _
        have:=(uh HYW).drop' m (Nat.le_refl _)
        rw[if_pos rfl,Nat.sub_self]at this
        exact this
       have HML:Hid ((rest.drop m).length=0):=by show _=_;rw[List.length_drop,uh HM];omega
       clear HYW HM
       go_wp2
       go_roundw
       case rel=>exact⟨_,_,_,_,k+1,0,rfl,rfl,by go_num,by omega,HLEN2,HML,HBD,HP2,HOK2,HROW4,HOWN4,uh HB4⟩
       case measure=>simp[lenOf];omega
      ·have HBD:Hid (Byt w (.slice (some ⟨b,off+z,none⟩) (m - z) (cap2 - z)) (rest.drop z)):=by
        show Byt _ _ _
        have:=(uh HYW).drop' z hg2
        rw[if_neg hcz]at this
        exact this
       have HML:Hid ((rest.drop z).length=m - z):=by show _=_;rw[List.length_drop,uh HM]
       clear HYW HM
       go_wp2
       go_roundw
       case rel=>exact⟨_,_,_,_,k+1,m - z,rfl,rfl,by go_num,by omega,HLEN2,HML,HBD,HP2,HOK2,HROW4,HOWN4,uh HB4⟩
       case measure=>simp[lenOf];omega
     ·have HM1:Hid (min k 32=min (k+1) 32):=by show _=_;omega
      have HT1:Hid (d.take 32=(d++[((q:Int),N,s,t)]).take 32):=by show _=_;rw[List.take_append_of_le_length (by rw[uh HD];omega)]
      rw[uh HM1,uh HT1]at HOWN3
      by_cases hcz:cap2=z
      ·have hm1:m=cap2:=by omega
       have hm2:m=z:=by omega
       clear hcz
       subst hm1
       subst hm2
       have HBD:Hid (Byt w (.slice (some ⟨b,off,none⟩) 0 0) (rest.drop m)):=by
        show Byt _ _ _
        have:=(uh HYW).drop' m (Nat.le_refl _)
        rw[if_pos rfl,Nat.sub_self]at this
        exact this
       have HML:Hid ((rest.drop m).length=0):=by show _=_;rw[List.length_drop,uh HM];omega
       clear HYW HM
       go_wp2
       go_roundw
       case rel=>exact⟨_,_,_,_,k+1,0,rfl,rfl,by go_num,by omega,HLEN2,HML,HBD,HP2,HOK2,HROW3,HOWN3,uh HB3⟩
       case measure=>simp[lenOf];omega
      ·have HBD:Hid (Byt w (.slice (some ⟨b,off+z,none⟩) (m - z) (cap2 - z)) (rest.drop z)):=by
        show Byt _ _ _
        have:=(uh HYW).drop' z hg2
        rw[if_neg hcz]at this
        exact this
       have HML:Hid ((rest.drop z).length=m - z):=by show _=_;rw[List.length_drop,uh HM]
       clear HYW HM
       go_wp2
       go_roundw
       case rel=>exact⟨_,_,_,_,k+1,m - z,rfl,rfl,by go_num,by omega,HLEN2,HML,HBD,HP2,HOK2,HROW3,HOWN3,uh HB3⟩
       case measure=>simp[lenOf];omega
def pbd (l:List Int):List Int:=(l.drop (ghd l)).take (gid l).toNat
def pgt (place:Int) (l:List Int):Int:=if (V.vget l).2.2≠0 then (V.vget l).2.2 else if l.length < ghd l+(gid l).toNat then 3 else rdn place (pbd l)
def plist (place:Int) (l:List Int):List Pr:=if pgt place l=0 then (parse (pbd l)).getD [] else []
def psz (place:Int) (l:List Int):Int:=if pgt place l=0 then ghd l+(gid l).toNat else 0
def GetPost2 (place:Int) (l:List Int) (w:World) (e:Ending) (w':World):Prop :=
 ∃ v E,e=.returned (.tuple #[v,.int .i64 (psz place l),E])/\Hid (w'.ownsRow w.heap.size 109 4 v (plist place l).length (pcs (plist place l)))/\Hid (ErrP w' E (pgt place l))/\Below w.heap.size w w'/\(pgt place l=0->E=.nilIface)
theorem get_post_bad (place:Int) (l:List Int) (w w':World) (n:Int) (hp:pgt place l=n) (hn:n≠0) (x:Value) (hE:Hid (ErrP w' (.iface 118 x) n)) (hb:Below w.heap.size w w'):GetPost2 place l w (.returned (.tuple #[.slice none 0 0,.int .i64 0,.iface 118 x])) w':=by
 refine⟨.slice none 0 0,.iface 118 x,?_,?_,by rw[hp];exact hE,hb,fun h0=>absurd (hp.symm.trans h0) hn⟩
 ·unfold psz
  rw[if_neg (by rw[hp];exact hn)]
 ·show World.ownsRow _ _ _ _ _ _ _
  unfold plist
  rw[if_neg (by rw[hp];exact hn)]
  exact World.ownsRow_nil _ _ _ _
theorem ghd_le (l:List Int) (h2:ghd l<=l.length) (h:V.put (gid l)=l.take (ghd l)):ghd l<=4:=by
 have a:=congrArg List.length h
 rw[List.length_take,Nat.min_eq_left h2]at a
 have:=(V.put_len (gid l)).2
 omega
theorem get3_bad1 (v:Value) (l:List Int) (place:Int) (w:World) (h:Byt w v l) (hv:(V.vget l).2.2≠0):Calls Tryz.prog 85 #[v,.int .i64 place] w (GetPost2 place l w):=by
 have hp:pgt place l=(V.vget l).2.2:=by unfold pgt;rw[if_pos hv]
 obtain⟨ao,cap,rfl,hc1,hc2⟩:=h.form
 have HV:=zh h
 have HP:=zh hp
 clear h hp
 generalize hm:(V.vget l).2.2=m at hv HP
 generalize hn:l.length=n at hc1 HV
 have HM:=zh hm
 clear hn hm
 go_enter Tryz.func85,Tryz.ntmps85
 go_wp2_with fail
 refine (vget_fail _ l _ (uh HV) m (uh HM) hv).mono ?_
 rintro e w1 ⟨a,b,x,rfl,hi,hb1⟩
 have HB1:=zh hb1
 clear hb1
 go_wp2_with fail
 refine (wrap_use _ m _ (uh hi)).mono ?_
 rintro e w2 ⟨E,rfl,hE,hb2⟩
 go_wp2
 go_returns
 exact get_post_bad place l w _ m (uh HP) hv _ hE ((uh HB1).trans (hb2.mono (uh HB1).size))
theorem get3_short (v:Value) (l:List Int) (place:Int) (w:World) (h:Byt w v l) (hv:(V.vget l).2.2=0) (hs:l.length < ghd l+(gid l).toNat):Calls Tryz.prog 85 #[v,.int .i64 place] w (GetPost2 place l w):=by
 have hp:pgt place l=3:=by unfold pgt;rw[if_neg (by rw[hv];decide),if_pos hs]
 obtain⟨hv',h1,h2,h3,h4,h5⟩:=vget_is l h.range hv
 have hQ4:=ghd_le l h2 h5
 clear h5
 obtain⟨ao,cap,rfl,hc1,hc2⟩:=h.form
 unfold maxLen at hc2
 have HV:=zh h
 have HP:=zh hp
 clear h hp hv
 obtain⟨N,hN⟩:∃ N:Nat,gid l=N:=⟨(gid l).toNat,by omega⟩
 rw[hN,Int.toNat_natCast]at hs
 rw[hN]at hv' h3 h4
 generalize ghd l=Q at hQ4 hv' h1 h2 hs
 have Hv:=zh hv'
 generalize hn:l.length=n at hc1 HV h2 hs
 clear hn hv' hN
 go_enter Tryz.func85,Tryz.ntmps85
 go_wp2_with fail
 refine (vget_good _ l _ (uh HV) N Q (uh Hv)).mono ?_
 rintro e w1 ⟨rfl,hb1⟩
 have HB1:=zh hb1
 clear hb1
 go_wp2_with fail
 refine (pfault_use 3 _).mono ?_
 rintro e w2 ⟨E,rfl,hE,hb2⟩
 go_wp2
 go_returns
 exact get_post_bad place l w _ 3 (uh HP) (by decide) _ hE ((uh HB1).trans (hb2.mono (uh HB1).size))
theorem Byt.mid {w:World} {b off n cap:Nat} {l:List Int} (h:Byt w (.slice (some ⟨b,off,none⟩) n cap) l) (p q:Nat) (hq:p+q<=n):Byt w (.slice (if cap=p then some ⟨b,off,none⟩ else some ⟨b,off+p,none⟩) q (cap - p)) ((l.drop p).take q) :=
 (h.drop' p (by omega)).take q (by omega)
theorem get3_read (v:Value) (l:List Int) (place:Int) (w:World) (h:Byt w v l) (hv:(V.vget l).2.2=0) (hs:ghd l+(gid l).toNat<=l.length):Calls Tryz.prog 85 #[v,.int .i64 place] w (GetPost2 place l w):=by
 have hp:pgt place l=rdn place (pbd l):=by unfold pgt;rw[if_neg (by rw[hv];decide),if_neg (by omega)]
 have hsz:∀ q,parse (pbd l)=some q->pgt place l=0->plist place l=q/\psz place l=((ghd l+(gid l).toNat:Nat):Int):=fun q hq h0=>by
  unfold plist psz
  rw[if_pos h0,if_pos h0,hq]
  exact⟨rfl,by omega⟩
 obtain⟨hv',h1,h2,h3,h4,h5⟩:=vget_is l h.range hv
 have hQ4:=ghd_le l h2 h5
 clear h5
 obtain⟨b,off,cap,rfl,hc1,hc2⟩:=h.form1 (by omega)
 unfold maxLen at hc2
 have HV:=zh h
 have HP:=zh hp
 have HSZ:=zh hsz
 clear h hp hv hsz
 have hpb:pbd l=(l.drop (ghd l)).take (gid l).toNat:=rfl
 obtain⟨N,hN⟩:∃ N:Nat,gid l=N:=⟨(gid l).toNat,by omega⟩
 rw[hN,Int.toNat_natCast]at hs HSZ hpb
 rw[hN]at hv' h3 h4
 generalize ghd l=Q at hQ4 hv' h1 h2 hs HSZ hpb
 generalize pbd l=L at HP HSZ hpb
 have Hv:=zh hv'
 generalize hn:l.length=n at hc1 HV h2 hs
 have HPB:=zh hpb
 clear hn hv' hN hpb
 by_cases hcQ:cap=Q
 ·have e1:Q=cap:=hcQ.symm
  clear hcQ
  subst e1
  have e2:Q=n:=by omega
  subst e2
  obtain rfl:N=0:=by omega
  have HD:Hid (Byt w (.slice (some ⟨b,off,none⟩) 0 0) L):=by
   show Byt _ _ _
   have:=(uh HV).mid Q 0 (by omega)
   rw[if_pos rfl,Nat.sub_self,<- uh HPB]at this
   exact this
  go_enter Tryz.func85,Tryz.ntmps85
  go_wp2_with fail
  refine (vget_good _ l _ (uh HV) 0 Q (uh Hv)).mono ?_
  rintro e w1 ⟨rfl,hb1⟩
  have HB1:=zh hb1
  clear hb1
  go_wp2_with fail
  refine (read_any _ L place _ ((uh HD).below (uh HB1))).mono ?_
  rintro e w2 (⟨q,v2,hpar,hok,rfl,hown,hb2⟩ | ⟨hc,E,rfl,hE,hb2⟩)
  ·have HPAR:=zh hpar
   have HOK:=zh hok
   have HB2:Hid (Below w.heap.size w w2):=(uh HB1).trans (hb2.mono (uh HB1).size)
   have HOWN:Hid (w2.ownsRow w.heap.size 109 4 v2 (min q.length 32) (pcs (q.take 32))):=owns_mono (uh hown) (uh HB1).size
   have HRD:Hid (pgt place l=chkP place q):=(uh HP).trans (rdn_some place L q hpar)
   clear hpar hok hb2 hown
   generalize hk:q.length=k at HOWN
   have HK:=zh hk
   clear hk
   rcases Nat.lt_or_ge 32 k with h32 | h32
   ·have HC:Hid (pgt place l=2):=(uh HRD).trans (chkP_lim place q (uh HOK) (by rw[uh HK];exact h32))
    go_wp2_with fail
    refine (few_bad k _ (by omega)).mono ?_
    rintro e w3 ⟨E,rfl,hE,hb3⟩
    go_wp2
    go_returns
    exact get_post_bad place l w _ 2 (uh HC) (by decide) _ hE ((uh HB2).trans (hb3.mono (uh HB2).size))
   ·have HC:Hid (pgt place l=0):=(uh HRD).trans (chkP_ok place q (uh HOK) (by rw[uh HK];exact h32))
    have HLS:=zh ((uh HSZ) q (uh HPAR) (uh HC))
    go_wp2_with fail
    refine (few_ok k _ (by omega)).mono ?_
    rintro e w3 ⟨rfl,hw⟩
    obtain rfl:=hw.symm
    clear hw
    go_wp2
    go_returns
    refine⟨_,_,by rw[(uh HLS).2];exact (by go_num),?_,by rw[uh HC];exact ErrP.nil _,uh HB2,fun _=>rfl⟩
    show World.ownsRow _ _ _ _ _ _ _
    rw[(uh HLS).1,uh HK]
    have:=uh HOWN
    rw[Nat.min_eq_left h32,List.take_of_length_le (by rw[uh HK];exact h32)]at this
    exact this
  ·have HC:Hid (pgt place l=1):=(uh HP).trans hc
   clear hc
   go_wp2
   go_returns
   exact get_post_bad place l w _ 1 (uh HC) (by decide) _ hE ((uh HB1).trans (hb2.mono (uh HB1).size))
 ·have HD:Hid (Byt w (.slice (some ⟨b,off+Q,none⟩) N (cap - Q)) L):=by
   show Byt _ _ _
   have:=(uh HV).mid Q N (by omega)
   rw[if_neg hcQ,<- uh HPB]at this
   exact this
  go_enter Tryz.func85,Tryz.ntmps85
  go_wp2_with fail
  refine (vget_good _ l _ (uh HV) N Q (uh Hv)).mono ?_
  rintro e w1 ⟨rfl,hb1⟩
  have HB1:=zh hb1
  clear hb1
  go_wp2_with fail
  refine (read_any _ L place _ ((uh HD).below (uh HB1))).mono ?_
  rintro e w2 (⟨q,v2,hpar,hok,rfl,hown,hb2⟩ | ⟨hc,E,rfl,hE,hb2⟩)
  ·have HPAR:=zh hpar
   have HOK:=zh hok
   have HB2:Hid (Below w.heap.size w w2):=(uh HB1).trans (hb2.mono (uh HB1).size)
   have HOWN:Hid (w2.ownsRow w.heap.size 109 4 v2 (min q.length 32) (pcs (q.take 32))):=owns_mono (uh hown) (uh HB1).size
   have HRD:Hid (pgt place l=chkP place q):=(uh HP).trans (rdn_some place L q hpar)
   clear hpar hok hb2 hown
   generalize hk:q.length=k at HOWN
   have HK:=zh hk
   clear hk
   rcases Nat.lt_or_ge 32 k with h32 | h32
   ·have HC:Hid (pgt place l=2):=(uh HRD).trans (chkP_lim place q (uh HOK) (by rw[uh HK];exact h32))
    go_wp2_with fail
    refine (few_bad k _ (by omega)).mono ?_
    rintro e w3 ⟨E,rfl,hE,hb3⟩
    go_wp2
    go_returns
    exact get_post_bad place l w _ 2 (uh HC) (by decide) _ hE ((uh HB2).trans (hb3.mono (uh HB2).size))
   ·have HC:Hid (pgt place l=0):=(uh HRD).trans (chkP_ok place q (uh HOK) (by rw[uh HK];exact h32))
    have HLS:=zh ((uh HSZ) q (uh HPAR) (uh HC))
    go_wp2_with fail
    refine (few_ok k _ (by omega)).mono ?_
    rintro e w3 ⟨rfl,hw⟩
    obtain rfl:=hw.symm
    clear hw
    go_wp2
    go_returns
    refine⟨_,_,by rw[(uh HLS).2];exact (by go_num),?_,by rw[uh HC];exact ErrP.nil _,uh HB2,fun _=>rfl⟩
    show World.ownsRow _ _ _ _ _ _ _
    rw[(uh HLS).1,uh HK]
    have:=uh HOWN
    rw[Nat.min_eq_left h32,List.take_of_length_le (by rw[uh HK];exact h32)]at this
    exact this
  ·have HC:Hid (pgt place l=1):=(uh HP).trans hc
   clear hc
   go_wp2
   go_returns
   exact get_post_bad place l w _ 1 (uh HC) (by decide) _ hE ((uh HB1).trans (hb2.mono (uh HB1).size))
theorem get3_two (v:Value) (l:List Int) (place:Int) (w:World) (h:Byt w v l):Calls Tryz.prog 85 #[v,.int .i64 place] w (GetPost2 place l w):=by
 by_cases hv:(V.vget l).2.2=0
 ·rcases Nat.lt_or_ge l.length (ghd l+(gid l).toNat)with hs | hs
  ·exact get3_short v l place w h hv hs
  ·exact get3_read v l place w h hv hs
 ·exact get3_bad1 v l place w h hv
end Go.Proofs.YtpheelbbpiieiaaGreatDoor
namespace Go.Proofs.YtpheelbbpiieiaaGreatDoor.K
open Go.RowKit
set_option maxRecDepth 100000
theorem psz_len (place:Int) (l:List Int):∃ N:Nat,psz place l=(N:Int)/\N<=l.length:=by
 unfold psz
 by_cases h:pgt place l=0
 ·rw[if_pos h]
  refine⟨ghd l+(gid l).toNat,rfl,?_⟩
  unfold pgt at h
  split at h
  ·contradiction
  ·split at h
   ·contradiction
   ·omega
 ·rw[if_neg h]
  exact⟨0,rfl,Nat.zero_le _⟩
def props? (place:Int) (l:List Int):Option (List Pr×List Int):=if pgt place l=0 then some (plist place l,l.drop (psz place l).toNat) else none
def RdP (w0:World) (R:Nat) (place:Int) (st:Option (List Int)) (w:World) (e:Ending) (w':World):Prop :=
 ∃ (t:Sl) (x:List Pr) (st':Option (List Int)),e=.returned t.val/\Hid (w'.ownsRow w.heap.size 109 4 t.val x.length (pcs x))/\Stp (props? place) st x st'/\RS w0 w' R st'/\BX R isRE w w'
theorem props_any (R:Nat) (place:Int) (st:Option (List Int)) (w0 w:World) (h:RS w0 w R st):Calls Tryz.prog 54 #[.pointer (some ⟨R,0,none⟩),.int .i64 place] w (RdP w0 R place st w):=by
 have hlt:=h.lt
 obtain⟨_,⟨c,hd⟩,bv,l,E,hr,hb,hw,hR,hst⟩:=h
 obtain⟨n,hN,hn⟩:=psz_len place l
 have HG:=zh (get3_two bv l place w (hb.below hw))
 have HQ:Hid (props? place l=if pgt place l=0 then some (plist place l,l.drop n) else none):=by
  show props? place l=_
  unfold props?
  rw[hN,Int.toNat_natCast]
 have HN:=zh hN
 have hE:=st_form hst
 have hst':st=some l\/st=none:=hst.imp And.left And.left
 have HR:=zh hr
 have HB:=zh hb
 have HA:=zh (after w0 w)
 have HD:=zh hd
 have HW:=zh hw
 have HS:=zh hst
 have HS':=zh hst'
 have HE:=zh hE
 obtain⟨h1,h2,h3,h4⟩:=hr
 clear hN hd hb hw hst hst' hE h2 h3 h4
 go_enter Tryz.func54,Tryz.ntmps54
 go_wp2_with fail
 refine (uh HG).mono ?_
 rintro e w1 ⟨v,F,he,hO,hF,hB,hz⟩
 rw[uh HN]at he
 subst he
 have HF:Hid (Bel w1 (fun k=>k=R) F (pgt place l)):=by
  show Bel _ _ _ _
  by_cases h0:pgt place l=0
  ·exact .inl ⟨h0,hz h0⟩
  ·rcases er_of_p (uh hF) with⟨h,_⟩ | ⟨d,hd,h⟩
   ·exact absurd h h0
   ·exact .inr ⟨h0,d,hd,ErO.of ((hB.cell (p:=⟨R,1,none⟩) hlt).trans (uh HD)) h⟩
 obtain⟨t,ht,_⟩:=owns_sl (uh hO)
 subst ht
 have HB1:=zh hB
 have HR1:=zh ((uh HR).below hB)
 clear hB h1 hF hz
 generalize pgt place l=m at HQ HF
 generalize plist place l=x at HQ hO
 clear HG HN
 go_wp2_with fail
 refine (fail_any R bv E F w1 (uh HR1) (uh HE) (uh HF).form).mono ?_
 rintro e w2 ⟨rfl,hr2,hx2⟩
 have HR2:=zh hr2
 have HX2:=zh hx2
 clear hr2 hx2
 go_wp2_with fail
 refine (next_ok R bv (orE E F) l n w0 w2 (uh HR2) (uh HB) hn).mono ?_
 rintro e w3 ⟨v,bv',rfl,hv,hbv,hr3,hx3⟩
 have HV:=zh hbv
 have HR3:=zh hr3
 have HX3:=zh hx3
 clear hv hbv hr3 hx3
 go_wp2
 go_ret
 have k:=(uh HA) w1 w2 w3 R (fun k=>k=R) bv' E F st l n m c ⟨rfl,fun k hk=>by rw[hk];exact hlt⟩ (uh HD) (uh HW) hR (uh HS) (uh HB1) (uh HF) (uh HX2) (uh HX3) (uh HV) (uh HR3)
 exact⟨t,x,_,rfl,owns_bx (uh hO) ((uh HX2).trans (uh HX3)) hlt,stp_get (props? place) st l x n m (uh HS') (uh HQ),k.1,k.2⟩
end Go.Proofs.YtpheelbbpiieiaaGreatDoor.K
