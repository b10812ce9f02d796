/- Helpers of the proof. -/
import Derived.Test.YtmpijpjlbhfccaaGreatDoorZC44
import Derived.Test.YtmpijpjlbhfccaaGreatDoorZC31
import Derived.Test.YtmpijpjlbhfccaaGreatDoorZC42
import Derived.Test.YtmpijpjlbhfccaaGreatDoorZC6
import Derived.Deep.Cut
import Derived.Laws.AppendOwn
import Derived.Deep.CutRange
set_option maxHeartbeats 20000000
namespace Go.Proofs.YtmpijpjlbhfccaaGreatDoor
open Go.RowKit
set_option maxRecDepth 100000
theorem rg_good (v:Value) (l:List Int) (w:World) (h:Byt w v l) (hg:gok l=true):Calls Tryz.prog 155 #[v] w (RgOk (gpr l) (gsz l) w):=by
 have hr:=h.range
 unfold gok at hg
 rw[Bool.and_eq_true,decide_eq_true_eq]at hg
 obtain⟨hv,a,b,c,d,e⟩:=vget_is l hr hg.1
 have h4:=ghd_le l b e
 have hg2:=hg.2
 have hl:=gval_le _ _ (Rng.drop hr (ghd l)) hg2
 have hr':=Rng.drop hr (ghd l)
 unfold gpr gsz grs
 unfold grs at hg2
 obtain⟨k,hk⟩:∃ k,kd (gid l)=k:=⟨_,rfl⟩
 rw[hk]at hg2 hl |-
 unfold gval at hg2 hl |-
 rw[List.length_drop]at hl
 by_cases k1:k=1\/k=2\/k=4
 ·rw[if_pos k1]at hg2 hl |-
  simp only[decide_eq_true_eq]at hg2 hl |-
  rcases k1 with rfl|rfl|rfl
  ·exact rg_num1 v l w h _ _ hv ⟨a,b⟩ h4 hk (by omega)
  ·exact rg_num2 v l w h _ _ hv ⟨a,b⟩ h4 hk (by omega)
  ·exact rg_num4 v l w h _ _ hv ⟨a,b⟩ h4 hk (by omega)
 rw[if_neg k1]at hg2 hl |-
 by_cases k5:k=5
 ·subst k5
  rw[if_pos rfl]at hg2 hl |-
  simp only[decide_eq_true_eq]at hg2 hl |-
  obtain⟨hv',x1,x2,_⟩:=vget_is _ hr' hg2
  exact rg_var v l w h _ _ hv ⟨a,b⟩ h4 hk _ _ hv' x1 (by unfold ghd at *;omega)
 rw[if_neg k5]at hg2 hl |-
 by_cases k6:k=6
 ·subst k6
  rw[if_pos rfl]at hg2 hl |-
  simp only[decide_eq_true_eq]at hg2 hl |-
  obtain⟨x0,x1,x2,_⟩:=gt_is _ hg2
  exact rg_text v l w h _ _ hv ⟨a,b⟩ h4 hk _ _ x0 (by omega) (by omega)
 rw[if_neg k6]at hg2 hl |-
 by_cases k7:k=7
 ·subst k7
  rw[if_pos rfl]at hg2 hl |-
  simp only[decide_eq_true_eq]at hg2 hl |-
  obtain⟨x0,x1,x2,_⟩:=gbn_is _ hg2
  exact rg_bin v l w h _ _ hv ⟨a,b⟩ h4 hk _ _ x0 (by omega) (by omega)
 rw[if_neg k7]at hg2 hl |-
 by_cases k8:k=8
 ·subst k8
  rw[if_pos rfl]at hg2 hl |-
  simp only[Bool.and_eq_true,decide_eq_true_eq]at hg2 hl |-
  obtain⟨x0,x1,x2,_⟩:=gt_is _ hg2.1
  obtain⟨y0,y1,y2,_⟩:=gt_is _ hg2.2
  exact rg_pair v l w h _ _ hv ⟨a,b⟩ h4 hk _ _ x0 x1 (by omega) _ _ y0 y1 (by omega)
 rw[if_neg k8]at hg2
 simp at hg2
theorem rg_fail (v:Value) (l:List Int) (w:World) (h:Byt w v l) (hg:gok l=false):Calls Tryz.prog 155 #[v] w (RgBad w):=by
 have hr:=h.range
 by_cases hv0:(V.vget l).2.2=0
 ·obtain⟨hv,a,b,c,d,e⟩:=vget_is l hr hv0
  have h4:=ghd_le l b e
  have hg2:(grs l).1=false:=by
   unfold gok at hg
   rw[hv0]at hg
   simpa using hg
  unfold grs at hg2
  obtain⟨k,hk⟩:∃ k,kd (gid l)=k:=⟨_,rfl⟩
  have hkc:=kd_cases (gid l)
  rw[hk]at hg2 hkc
  unfold gval at hg2
  by_cases k1:k=1\/k=2\/k=4
  ·rw[if_pos k1]at hg2
   simp only[decide_eq_false_iff_not,List.length_drop]at hg2
   rcases k1 with rfl|rfl|rfl
   ·exact rg_num1_bad v l w h _ _ hv ⟨a,b⟩ h4 hk (by omega)
   ·exact rg_num2_bad v l w h _ _ hv ⟨a,b⟩ h4 hk (by omega)
   ·exact rg_num4_bad v l w h _ _ hv ⟨a,b⟩ h4 hk (by omega)
  rw[if_neg k1]at hg2
  by_cases k5:k=5
  ·subst k5
   rw[if_pos rfl]at hg2
   simp only[decide_eq_false_iff_not]at hg2
   exact rg_var_bad v l w h _ _ hv ⟨a,b⟩ h4 hk _ rfl hg2
  rw[if_neg k5]at hg2
  by_cases k6:k=6
  ·subst k6
   rw[if_pos rfl]at hg2
   simp only[decide_eq_false_iff_not]at hg2
   exact rg_text_bad v l w h _ _ hv ⟨a,b⟩ h4 hk _ rfl hg2
  rw[if_neg k6]at hg2
  by_cases k7:k=7
  ·subst k7
   rw[if_pos rfl]at hg2
   simp only[decide_eq_false_iff_not]at hg2
   exact rg_bin_bad v l w h _ _ hv ⟨a,b⟩ h4 hk _ rfl hg2
  rw[if_neg k7]at hg2
  by_cases k8:k=8
  ·subst k8
   rw[if_pos rfl]at hg2
   by_cases h1:(gt (l.drop (ghd l))).2.2=0
   ·obtain⟨e1,e2,e3,_⟩:=gt_is _ h1
    rw[List.length_drop]at e3
    have h2:¬ (gt ((l.drop (ghd l)).drop (gt (l.drop (ghd l))).2.1.toNat)).2.2=0:=by
     rw[h1]at hg2
     simpa using hg2
    exact rg_pair_bad2 v l w h _ _ hv ⟨a,b⟩ h4 hk _ _ e1 e2 (by omega) _ rfl h2
   ·exact rg_pair_bad1 v l w h _ _ hv ⟨a,b⟩ h4 hk _ rfl h1
  exact rg_none v l w h _ _ hv ⟨a,b⟩ h4 (by omega)
 ·exact rg_id_bad v l w h _ rfl hv0
def RGetPost2 (place:Int) (l:List Int) (w:World) (e:Ending) (w':World):Prop :=
 ∃ v,e=.returned (.tuple #[v,.int .i64 (psz place l),.int .i64 (pgt place l)])/\Hid (w'.ownsRow w.heap.size 88 4 v (plist place l).length (pcs (plist place l)))/\Below w.heap.size w w'
theorem rget_post_bad (place:Int) (l:List Int) (w w':World) (n:Int) (hp:pgt place l=n) (hn:n≠0) (hb:Below w.heap.size w w'):RGetPost2 place l w (.returned (.tuple #[.slice none 0 0,.int .i64 0,.int .i64 n])) w':=by
 refine⟨.slice none 0 0,?_,?_,hb⟩
 ·unfold psz
  rw[if_neg (by rw[hp];exact hn),hp]
 ·show World.ownsRow _ _ _ _ _ _ _
  unfold plist
  rw[if_neg (by rw[hp];exact hn)]
  exact World.ownsRow_nil _ _ _ _
theorem rGet_bad1 (v:Value) (l:List Int) (place:Int) (w:World) (h:Byt w v l) (hv:(V.vget l).2.2≠0):Calls Tryz.prog 130 #[v,.int .i64 place] w (RGetPost2 place l w):=by
 have hp:pgt place l=(V.vget l).2.2:=by unfold pgt;rw[if_pos hv]
 obtain⟨ao,cap,rfl,hc1,hc2⟩:=h.form
 have HV:=zh h
 have HP:=zh hp
 clear h hp
 generalize hm:(V.vget l).2.2=m at hv HP
 generalize hn:l.length=n at hc1 HV
 have HM:=zh hm
 clear hn hm
 go_enter Tryz.func130,Tryz.ntmps130
 go_wp2_with fail
 refine (rvget_fail _ l _ (uh HV) m (uh HM)).mono ?_
 rintro e w1 ⟨a,b,rfl,hb1⟩
 go_wp2
 go_returns
 exact rget_post_bad place l w _ m (uh HP) hv hb1
theorem rGet_short (v:Value) (l:List Int) (place:Int) (w:World) (h:Byt w v l) (hv:(V.vget l).2.2=0) (hs:l.length<ghd l+(gid l).toNat):Calls Tryz.prog 130 #[v,.int .i64 place] w (RGetPost2 place l w):=by
 have hp:pgt place l=3:=by unfold pgt;rw[if_neg (by rw[hv];decide),if_pos hs]
 obtain⟨hv',h1,h2,h3,h4,h5⟩:=vget_is l h.range hv
 have hQ4:=ghd_le l h2 h5
 clear h5
 obtain⟨ao,cap,rfl,hc1,hc2⟩:=h.form
 unfold maxLen at hc2
 have HV:=zh h
 have HP:=zh hp
 clear h hp hv
 obtain⟨N,hN⟩:∃ N:Nat,gid l=N:=⟨(gid l).toNat,by omega⟩
 rw[hN,Int.toNat_natCast]at hs
 rw[hN]at hv' h3 h4
 generalize ghd l=Q at hQ4 hv' h1 h2 hs
 have Hv:=zh hv'
 generalize hn:l.length=n at hc1 HV h2 hs
 clear hn hv' hN
 go_enter Tryz.func130,Tryz.ntmps130
 go_wp2_with fail
 refine (rvget_good _ l _ (uh HV) N Q (uh Hv)).mono ?_
 rintro e w1 ⟨rfl,hb1⟩
 have HB1:=zh hb1
 clear hb1
 go_wp2
 go_returns
 exact rget_post_bad place l w _ 3 (uh HP) (by decide) (uh HB1)
theorem rchk_use (v:Value) (l:List Pr) (place:Int) (w:World) (h:Prp w v l) (hmx:l.length<=1000000000) (hsm:Small l):Calls Tryz.prog 114 #[v,.int .i64 place] w fun e w'=>e=.returned (.int .i64 (chkP place l))/\Below w.heap.size w w':=by
 obtain⟨ao,cap,rfl,hc⟩:=h
 rcases hc with rfl|⟨b,off,rfl,hc⟩
 ·have HC:Hid (chkP place []=0):=chkP_ok place [] (fun i hi=>absurd hi (Nat.not_lt_zero i)) (by simp)
  go_enter Tryz.func114,Tryz.ntmps114
  go_wp2
  refine wp_loop_rounds 1 ?_
  rw[rounds_succ]
  go_wp2
  go_ret
  exact⟨ret_int (uh HC).symm,Below.refl _ _⟩
 ·exact rchk_core b off cap l _ place w rfl hmx hsm hc
theorem small_snoc (d:List Pr) (p:Pr) (h:Small d) (h1:p.2.2.1.size<=65535) (h2:p.2.2.2.size<=65535):Small (d++[p]):=fun k hk=>by
 rw[List.length_append,List.length_singleton]at hk
 rcases Nat.lt_or_ge k d.length with a|a
 ·rw[at0_app d [p] k a];exact h k a
 ·obtain rfl:k=d.length:=by omega
  rw[at0_mid];omega
theorem drop_take_drop (l:List Int) (q m a:Nat):(l.drop (q+a)).take (m-a)=((l.drop q).take m).drop a:=by
 rw[List.drop_take,List.drop_drop]
theorem rGet_read (v:Value) (l:List Int) (place:Int) (w:World) (h:Byt w v l) (hv:(V.vget l).2.2=0) (hs:ghd l+(gid l).toNat<=l.length):Calls Tryz.prog 130 #[v,.int .i64 place] w (RGetPost2 place l w):=by
 obtain⟨i0,hi,hz0,hz1,hz2⟩:=info_parts Tryz.infoProp
 have hp:pgt place l=rdn place (pbd l):=by unfold pgt;rw[if_neg (by rw[hv];decide),if_neg (by omega)]
 have hsz:∀ q,parse (pbd l)=some q->pgt place l=0->plist place l=q/\psz place l=((ghd l+(gid l).toNat:Nat):Int):=fun q hq h0=>by
  unfold plist psz
  rw[if_pos h0,if_pos h0,hq]
  exact⟨rfl,by omega⟩
 obtain⟨hv',h1,h2,h3,h4,h5⟩:=vget_is l h.range hv
 have hQ4:=ghd_le l h2 h5
 clear h5
 obtain⟨b,off,cap,rfl,hc1,hc2⟩:=h.form1 (by omega)
 unfold maxLen at hc2
 have HV:=zh h
 have HP:=zh hp
 have HSZ:=zh hsz
 clear h hv hp hsz
 have hpb:pbd l=(l.drop (ghd l)).take (gid l).toNat:=rfl
 obtain⟨N,hN⟩:∃ N:Nat,gid l=N:=⟨(gid l).toNat,by omega⟩
 rw[hN,Int.toNat_natCast]at hs HSZ hpb
 rw[hN]at hv' h3 h4
 generalize ghd l=Q at hQ4 hv' h1 h2 hs HSZ hpb
 generalize pbd l=L at HP HSZ hpb
 have Hv:=zh hv'
 have hLl:L.length=N:=by rw[hpb,List.length_take,List.length_drop];omega
 generalize hn:l.length=n at hc1 HV h2 hs
 have HPB:=zh hpb
 have HLL:=zh hLl
 clear hn hv' hN hpb hLl
 go_enter Tryz.func130,Tryz.ntmps130
 go_wp2_with fail
 refine (rvget_good _ l _ (uh HV) N Q (uh Hv)).mono ?_
 rintro e w1 ⟨rfl,hb1⟩
 have HB1:=zh hb1
 clear hb1
 go_wp2_with fail
 go_loopw [10,11] (fun l0 a0 wr=>∃ (lv:Value) (d:List Pr) (k A:Nat),l0=lv/\a0=.int .i64 (Q+A:Nat)/\A<=N/\k<=A/\Hid (d.length=k)/\Hid (parse L=(parse (L.drop A)).map (d++·))/\Hid (Small d)/\Hid (wr.ownsRow w.heap.size 88 4 lv k (pcs d))/\Below w.heap.size w wr) (fun _ a0 _=>Q+N-(intOf a0).toNat)
 case atStart =>
  refine⟨_,[],0,0,rfl,rfl,Nat.zero_le _,Nat.le_refl _,rfl,?_,fun k hk=>absurd hk (Nat.not_lt_zero k),World.ownsRow_nil _ _ _ _,uh HB1⟩
  show parse L=_
  rw[List.drop_zero]
  cases parse L<;>simp
 case round =>
  obtain⟨_,d,k,A,rfl,rfl,hAN,hkA,HD,HPA,HSM,HOWN,hbel⟩:=hrel
  have hsz:=hbel.size
  by_cases hlt:A<N
  ·have HY:Hid (Byt wr (.slice (some ⟨b,off+(Q+A),none⟩) (Q+N-(Q+A)) (cap-(Q+A))) (L.drop A)):=by
    show Byt _ _ _
    have:=((uh HV).below hbel).mid (Q+A) (N-A) (by omega)
    rw[if_neg (by omega),drop_take_drop,<- uh HPB]at this
    rw[show Q+N-(Q+A)=N-A from by omega]
    exact this
   have HLA:Hid ((L.drop A).length=N-A):=by show _=_;rw[List.length_drop,uh HLL]
   have HNE:Hid (L.drop A≠[]):=by
    intro e
    have:=uh HLA
    rw[e]at this
    simp at this
    omega
   have HBEL:=zh hbel
   clear hbel
   cases hgk:gok (L.drop A)
   ·have HC:Hid (pgt place l=1):=(uh HP).trans (rdn_none place L (by rw[uh HPA,parse_no _ (uh HNE) hgk];rfl))
    have HGK:=zh hgk
    clear hgk
    go_wp2_with fail
    refine (rg_fail _ _ _ (uh HY) (uh HGK)).mono ?_
    rintro e w2 ⟨i2,n2,s2,t2,rfl,hb2⟩
    go_wp2
    go_returns
    exact rget_post_bad place l w _ 1 (uh HC) (by decide) (((uh HBEL).trans (hb2.mono hsz)).alloc (by have:=hb2.size;omega) _)
   ·have hr:=(uh HY).range
    obtain⟨hg1,hg2,-,-⟩:=gok_le (L.drop A) hr hgk
    rw[uh HLA]at hg2
    have HTX:=zh (gpr_txo (L.drop A) hr hgk)
    have HPY:=zh (parse_yes (L.drop A) (uh HNE) hr hgk)
    have HG1:=zh (rg_good _ (L.drop A) _ (uh HY) hgk)
    clear hr hgk
    generalize hz:gsz (L.drop A)=z at hg1 hg2 HPY HG1
    clear hz
    obtain⟨id,M,s,t,hp⟩:∃ id M s t,gpr (L.drop A)=(id,M,s,t):=⟨_,_,_,_,rfl⟩
    rw[hp]at HTX HPY HG1
    clear hp
    have HP2:Hid (parse L=(parse (L.drop (A+z))).map ((d++[(id,M,s,t)])++·)):=by
     show _=_
     rw[uh HPA,uh HPY,Option.map_map,List.drop_drop]
     congr 1
     funext x
     simp
    clear HPY HPA
    go_wp2_with fail
    refine (uh HG1).mono ?_
    rintro e w2 ⟨rfl,hb2⟩
    have HB2:Hid (Below w.heap.size w w2):=(uh HBEL).trans (hb2.mono hsz)
    have hs2:=(uh HB2).size
    have HOWN2:Hid (w2.ownsRow w.heap.size 88 4 u10 k (pcs d)):=owns_below (uh HOWN) hb2
    have HSM2:Hid (Small (d++[(id,M,s,t)])):=small_snoc d _ (uh HSM) (uh HTX).2.1 (uh HTX).2.2
    have HLEN2:Hid ((d++[(id,M,s,t)]).length=k+1):=by show _=_;rw[List.length_append,uh HD];rfl
    clear hb2 HOWN HBEL HG1 HTX HSM
    have HSIZE:Hid ((w2.alloc (.cells #[.int .i64 id,.int .i64 M,.string s,.string t] 88)).heap.size=w2.heap.size+1):=by show _=_;simp
    have HFC:=zh (four_cell (w2.alloc (.cells #[.int .i64 id,.int .i64 M,.string s,.string t] 88)) (.int .i64 id) (.int .i64 M) (.string s) (.string t) 88)
    rw[uh HSIZE]at HFC
    go_wp2_with (first
     | (at_builtin;refine wpList_append_own _ rfl _ _ 25 rfl w.heap.size 88 i0 _ 4 48 Tryz.underlying25 hi hz0 hz1 hz2 rfl (by decide) _ _ _ rfl (((uh HOWN2).alloc _).alloc _) ⟨w2.heap.size+1,0,none⟩ 1 1 [.int .i64 id,.int .i64 M,.string s,.string t] rfl rfl (uh HFC) (four_one _ _ _ _) (by unfold maxLen;omega) (by omega) (by simp;omega) ?_)
     | go_in)
    intro v4 w4 hown4 hgrow4 _
    have HB4:Hid (Below w.heap.size w w4):=(((uh HB2).alloc hs2 _).alloc (by simp;omega) _).grown hgrow4 (by simp;omega) (fun g hg=>by have:=((uh HOWN2).lt g hg).1;omega)
    have HOWN4:Hid (w4.ownsRow w.heap.size 88 4 v4 (k+1) (pcs (d++[(id,M,s,t)]))):=by
     show World.ownsRow _ _ _ _ _ _ _
     rw[pcs_app]
     exact hown4
    clear hown4 hgrow4 HOWN2 HFC HSIZE HB2
    go_wp2
    go_roundw
    case rel=>exact⟨_,_,k+1,A+z,rfl,by go_num,by omega,by omega,HLEN2,HP2,HSM2,HOWN4,uh HB4⟩
    case measure=>simp[intOf];omega
  ·obtain rfl:A=N:=by omega
   have HPS:Hid (parse L=some d):=by
    have:=uh HPA
    rw[List.drop_of_length_le (by rw[uh HLL];exact Nat.le_refl _),parse_nil]at this
    show parse L=some d
    simpa using this
   have HPR:Hid (Prp wr u10 d):=prp_of_owns (by rw[uh HD];exact uh HOWN)
   have HRD:Hid (pgt place l=chkP place d):=(uh HP).trans (rdn_some place L d (uh HPS))
   have HBEL:=zh hbel
   have HCK:=zh (rchk_use u10 d place wr (uh HPR) (by rw[uh HD];omega) (uh HSM))
   clear hbel HPA
   by_cases hc0:chkP place d=0
   ·have HLS:=zh ((uh HSZ) d (uh HPS) ((uh HRD).trans hc0))
    have HC:Hid (pgt place l=0):=(uh HRD).trans hc0
    rw[hc0]at HCK
    clear hc0 HRD
    go_wp2_with fail
    refine (uh HCK).mono ?_
    rintro e w2 ⟨rfl,hb2⟩
    have HB2:Hid (Below w.heap.size w w2):=(uh HBEL).trans (hb2.mono hsz)
    have HOW2:Hid (w2.ownsRow w.heap.size 88 4 u10 k (pcs d)):=owns_below (uh HOWN) hb2
    clear HOWN
    clear hb2
    go_wp2
    go_returns
    refine⟨_,by rw[(uh HLS).2,uh HC];exact (by go_num),?_,uh HB2⟩
    show World.ownsRow _ _ _ _ _ _ _
    rw[(uh HLS).1,uh HD]
    exact uh HOW2
   ·generalize hm:chkP place d=m at HCK hc0 HRD
    clear hm HOWN
    go_wp2_with fail
    refine (uh HCK).mono ?_
    rintro e w2 ⟨rfl,hb2⟩
    go_wp2
    go_returns
    exact rget_post_bad place l w _ m (uh HRD) hc0 ((uh HBEL).trans (hb2.mono hsz))
theorem rGet_own (v:Value) (l:List Int) (place:Int) (w:World) (h:Byt w v l):Calls Tryz.prog 130 #[v,.int .i64 place] w (RGetPost2 place l w):=by
 by_cases hv:(V.vget l).2.2=0
 ·rcases Nat.lt_or_ge l.length (ghd l+(gid l).toNat)with hs|hs
  ·exact rGet_short v l place w h hv hs
  ·exact rGet_read v l place w h hv hs
 ·exact rGet_bad1 v l place w h hv
end Go.Proofs.YtmpijpjlbhfccaaGreatDoor
namespace Go.Proofs.YtmpijpjlbhfccaaGreatDoor.K
open Go.RowKit
set_option maxRecDepth 100000
structure B2 (R A:Nat) (w w':World):Prop where
 os:w'.os=w.os
 tape:w'.tape=w.tape
 output:w'.output=w.output
 size:w.heap.size<=w'.heap.size
 block:∀ k,k<w.heap.size->k≠R->k≠A->w'.heap[k]?=w.heap[k]?
theorem B2.refl (R A:Nat) (w:World):B2 R A w w:=⟨rfl,rfl,rfl,Nat.le_refl _,fun _ _ _ _=>rfl⟩
theorem B2.trans {R A:Nat} {a b c:World} (h:B2 R A a b) (k:B2 R A b c):B2 R A a c :=
 ⟨k.os.trans h.os,k.tape.trans h.tape,k.output.trans h.output,Nat.le_trans h.size k.size,fun i hi h1 h2=>(k.block i (Nat.lt_of_lt_of_le hi h.size) h1 h2).trans (h.block i hi h1 h2)⟩
theorem B2.bx {R A:Nat} {may:Nat->Prop} {a b:World} (h:BX R may a b):B2 R A a b:=⟨h.os,h.tape,h.output,h.size,fun k hk h1 _=>h.block k hk h1⟩
theorem B2.bel {R A:Nat} {a b:World} (h:Below a.heap.size a b):B2 R A a b:=⟨h.os,h.tape,h.output,h.size,fun k hk _ _=>h.block k hk⟩
theorem B2.set {R A:Nat} {a b:World} (h:B2 R A a b) (j:Nat) (u:Value):B2 R A a (b.setCell ⟨A,j,none⟩ u) :=
 h.trans ⟨rfl,rfl,rfl,by simp[World.setCell],fun k _ _ hA=>Below.heap_setCell _ _ _ _ hA⟩
theorem B2.setR {R A:Nat} {a b:World} (h:B2 R A a b) (j:Nat) (u:Value):B2 R A a (b.setCell ⟨R,j,none⟩ u) :=
 h.trans ⟨rfl,rfl,rfl,by simp[World.setCell],fun k _ hR _=>Below.heap_setCell _ _ _ _ hR⟩
theorem B2.setOut {R A:Nat} {a b:World} (h:B2 R A a b) (V j:Nat) (u:Value) (hV:a.heap.size<=V):B2 R A a (b.setCell ⟨V,j,none⟩ u) :=
 ⟨h.os,h.tape,h.output,by simpa [World.setCell] using h.size,fun k hk h1 h2=>(Below.heap_setCell _ _ _ _ (by show k≠V;omega)).trans (h.block k hk h1 h2)⟩
theorem B2.keep {R A:Nat} {w0 a b:World} (h:B2 R A a b) (hw:Below w0.heap.size w0 a) (hR:w0.heap.size<=R) (hA:w0.heap.size<=A):Below w0.heap.size w0 b :=
 ⟨h.os.trans hw.os,h.tape.trans hw.tape,h.output.trans hw.output,Nat.le_trans hw.size h.size,fun k hk=>(h.block k (Nat.lt_of_lt_of_le hk hw.size) (by omega) (by omega)).trans (hw.block k hk)⟩
theorem owns_b2 {w w':World} {R A:Nat} {B:Nat} {e:TypeId} {s:Nat} {v:Value} {n:Nat} {xs:List Value} (h:w.ownsRow B e s v n xs) (hx:B2 R A w w') (hR:R<B) (hA:A<B):w'.ownsRow B e s v n xs:=by
 refine⟨h.1,?_⟩
 rcases h.2 with h1|⟨g,cap,cur,hv,hB,hg,rest⟩
 ·exact .inl h1
 ·exact .inr ⟨g,cap,cur,hv,hB,by rw[hx.block g (Array.getElem?_eq_some_iff.1 hg).1 (by omega) (by omega)];exact hg,rest⟩
theorem Pk.blk {w w':World} {A:Nat} {p:Pkv} (h:Pk w A p) (hb:w'.heap[A]?=w.heap[A]?):Pk w' A p:=fun j hj =>
 ⟨(World.cell?_of_block (a:=⟨A,j,none⟩) hb).trans (h j hj).1,(World.frozen?_of_block (a:=⟨A,j,none⟩) hb).trans (h j hj).2⟩
theorem Pk.oth {w w':World} {R A:Nat} {may:Nat->Prop} {p:Pkv} (h:Pk w A p) (hx:BX R may w w') (hA:A≠R):Pk w' A p:=h.blk (hx.block A h.lt hA)
theorem RP.far {w0:GW} {w w':World} {R:Nat} {st:Option (List Int)} (h:RP w0 w R st) (hb:w'.heap[R]?=w.heap[R]?) (hw':Below w0.heap.size w0 w'):RP w0 w' R st:=by
 obtain⟨ao,n,cap,k,bad,L,hc,hy,hk,hn,hw,hR,hst⟩:=h
 exact⟨ao,n,cap,k,bad,L,hc.far hb,hy,hk,hn,hw',hR,hst⟩
theorem RP.keep {w0:GW} {w:World} {R:Nat} {st:Option (List Int)} (h:RP w0 w R st):Below w0.heap.size w0 w:=by
 obtain⟨_,_,_,_,_,_,_,_,_,_,h,_⟩:=h
 exact h
theorem RP.set {w0:GW} {w:World} {R:Nat} {st:Option (List Int)} (h:RP w0 w R st) (A j:Nat) (u:Value) (hA:A≠R) (h0:w0.heap.size<=A):RP w0 (w.setCell ⟨A,j,none⟩ u) R st :=
 h.far (Below.heap_setCell _ _ _ _ (fun e=>hA e.symm)) ⟨h.keep.os,h.keep.tape,h.keep.output,by simpa [World.setCell] using h.keep.size,fun k hk=>(Below.heap_setCell _ _ _ _ (by show k≠A;omega)).trans (h.keep.block k hk)⟩
theorem RP.bad {w0:GW} {w:World} {R:Nat} {st:Option (List Int)} (h:RP w0 w R st):RP w0 (w.setCell ⟨R,2,none⟩ (.bool true)) R none:=by
 obtain⟨ao,n,cap,k,bad,L,hc,hy,hk,hn,hw,hR,hst⟩:=h
 exact⟨ao,n,cap,k,true,L,hc.setBad true,hy,hk,hn,((BX.refl R isAny w).set 2 _ trivial).keep hw hR,hR,rfl⟩
theorem RP.c2 {w0:GW} {w:World} {R:Nat} {st:Option (List Int)} (h:RP w0 w R st):∃ b,w.cell? ⟨R,2,none⟩=some (.bool b)/\w.frozen? ⟨R,2,none⟩=false/\b=st.isNone:=by
 obtain⟨ao,n,cap,k,bad,L,hc,hy,hk,hn,hw,hR,hst⟩:=h
 refine⟨bad,hc.2.2.1,hc.2.2.2,?_⟩
 subst hst
 cases bad<;>rfl
def PgP (w0:GW) (R:Nat) (place:Int) (st:Option (List Int)) (w:World) (e:Ending) (w':World):Prop :=
 ∃ (t:Sl) (x:List Pr) (st':Option (List Int)),e=.returned t.val/\Hid (w'.ownsRow w.heap.size 88 4 t.val x.length (pcs x))/\Stp (props? place) st x st'/\RP w0 w' R st'/\BX R isAny w w'
theorem props_pg (R:Nat) (place:Int) (st:Option (List Int)) (w0:GW) (w:World) (h:RP w0 w R st):Calls Tryz.prog 89 #[.pointer (some ⟨R,0,none⟩),.int .i64 place] w (PgP w0 R place st w):=by
 have hlt:=h.lt
 have hw0:=h.keep
 have HS:=zh h
 have HW0:=zh hw0
 clear h hw0
 go_enter Tryz.func89,Tryz.ntmps89
 go_wp2_with fail
 refine (left_pg R st w0 w (uh HS)).mono ?_
 rintro e w1 ⟨v,l,rfl,hv,he1,he2,hb1⟩
 have HW1:Hid (Below w0.heap.size w0 w1):=(uh HW0).trans (hb1.mono (uh HW0).size)
 obtain⟨n,hN,hn⟩:=psz_len place l
 have HG:=zh (rGet_own v l place w1 ((uh hv).below (uh HW1)))
 unfold RGetPost2 at HG
 rw[hN]at HG
 have HS1:=zh ((uh HS).below hb1)
 have HB1:=zh hb1
 have HE1:=zh he1
 have HQ:Hid (props? place l=if pgt place l=0 then some (plist place l,l.drop n) else none):=by
  show props? place l=_
  unfold props?
  rw[hN,Int.toNat_natCast]
 clear hb1 he1 he2 hN
 generalize plist place l=x at HG HQ
 generalize pgt place l=m at HG HQ
 go_wp2_with fail
 refine (uh HG).mono ?_
 rintro e w2 ⟨u,rfl,hO,hb2⟩
 obtain⟨t,ht,_⟩:=owns_sl (uh hO)
 subst ht
 have HS2:=zh ((uh HS1).below hb2)
 have HB2:Hid (Below w.heap.size w w2):=(uh HB1).trans (hb2.mono (uh HB1).size)
 have hs1:w.heap.size<=w1.heap.size:=(uh HB1).size
 clear hb2
 go_wp2_with fail
 refine (took_pg R st n m w0 w2 (uh HS2) (fun l' e=>by rw[(uh HE1) l' e];exact hn)).mono ?_
 rintro e w3 ⟨rfl,h3,hx3⟩
 have HS3:=zh h3
 have HX3:=zh hx3
 clear h3 hx3
 go_wp2
 go_ret
 refine⟨t,x,_,rfl,owns_mono (owns_bx (uh hO) (uh HX3) (Nat.lt_of_lt_of_le hlt hs1)) hs1,?_,uh HS3,(BX.of_below (uh HB2) hlt).trans (uh HX3)⟩
 cases st with
 | none =>
  show (if m=0 then _ else _)=none
  split<;>rfl
 | some l' =>
  have e:=(uh HE1) l' rfl
  subst e
  exact stp_get (props? place) (some l') l' x n m (.inl rfl) (uh HQ)
theorem gflag_is (b:Bool) (n:Int) (w:World):Calls Tryz.prog 70 #[.bool b,.int .i64 n] w fun e w'=>e=.returned (.int .i64 (fv b n))/\w'=w:=by
 cases b
 ·go_enter Tryz.func70,Tryz.ntmps70
  go_wp2
  go_ret
  exact⟨rfl,rfl⟩
 ·go_enter Tryz.func70,Tryz.ntmps70
  go_wp2
  go_ret
  exact⟨rfl,rfl⟩
theorem gflags_fixed (p:Pkv) (w:World) (h:p.kind=6\/p.kind=8\/p.kind=10):Calls Tryz.prog 29 #[p.val] w fun e w'=>e=.returned (.int .i64 2)/\Below w.heap.size w w':=by
 obtain⟨kind,dup,qos,retain,topic,id,payload,⟨a1,n1,c1⟩,client,clean,keep,⟨a2,n2,c2⟩,⟨a3,n3,c3⟩,⟨a4,n4,c4⟩,code,session,⟨a5,n5,c5⟩,⟨a6,n6,c6⟩,⟨a7,n7,c7⟩⟩:=p
 simp only at h
 rcases h with rfl|rfl|rfl
 ·go_enter Tryz.func29,Tryz.ntmps29
  go_wp2
  go_ret
  exact⟨rfl,by go_grown⟩
 ·go_enter Tryz.func29,Tryz.ntmps29
  go_wp2
  go_ret
  exact⟨rfl,by go_grown⟩
 ·go_enter Tryz.func29,Tryz.ntmps29
  go_wp2
  go_ret
  exact⟨rfl,by go_grown⟩
theorem gflags_other (p:Pkv) (w:World) (h3:p.kind≠3) (h6:p.kind≠6) (h8:p.kind≠8) (h10:p.kind≠10):Calls Tryz.prog 29 #[p.val] w fun e w'=>e=.returned (.int .i64 0)/\Below w.heap.size w w':=by
 obtain⟨kind,dup,qos,retain,topic,id,payload,⟨a1,n1,c1⟩,client,clean,keep,⟨a2,n2,c2⟩,⟨a3,n3,c3⟩,⟨a4,n4,c4⟩,code,session,⟨a5,n5,c5⟩,⟨a6,n6,c6⟩,⟨a7,n7,c7⟩⟩:=p
 simp only at h3 h6 h8 h10
 go_enter Tryz.func29,Tryz.ntmps29
 go_wp2
 go_ret
 exact⟨rfl,by go_grown⟩
def pgf (dup:Bool) (qos:Int) (retain:Bool):Int:=fv dup 8+2*qos+fv retain 1
theorem gflags_pub (p:Pkv) (w:World) (h3:p.kind=3) (hq:0<=p.qos/\p.qos<=3):Calls Tryz.prog 29 #[p.val] w fun e w'=>e=.returned (.int .i64 (pgf p.dup p.qos p.retain))/\Below w.heap.size w w':=by
 obtain⟨kind,dup,qos,retain,topic,id,payload,⟨a1,n1,c1⟩,client,clean,keep,⟨a2,n2,c2⟩,⟨a3,n3,c3⟩,⟨a4,n4,c4⟩,code,session,⟨a5,n5,c5⟩,⟨a6,n6,c6⟩,⟨a7,n7,c7⟩⟩:=p
 simp only at h3 hq
 subst h3
 unfold pgf
 have hf8:0<=fv dup 8/\fv dup 8<=8:=by unfold fv;cases dup<;>simp
 have hf1:0<=fv retain 1/\fv retain 1<=1:=by unfold fv;cases retain<;>simp
 go_enter Tryz.func29,Tryz.ntmps29
 go_wp2_with fail
 refine wp_region_noPanic ?_
 refine wp_region_held_drew (S:=(fun w'=>w'.cell? ⟨w.heap.size,1,none⟩=some (.bool dup)/\w'.cell? ⟨w.heap.size,2,none⟩=some (.int .i64 qos)/\w'.cell? ⟨w.heap.size,3,none⟩=some (.bool retain))) (by kernel_rfl) (by simp) (fun hHeld=>?_)
 refine rtk 0 (h:=?_)
 refine rtk 1 (h:=?_)
 refine rtk 3 (h:=?_)
 refine rtk 4 (h:=?_)
 refine rtk 5 (h:=?_)
 refine rtk 7 (h:=?_)
 refine rtk 8 (h:=?_)
 refine rcl 2 (h:=fun K hK=>?_)
 go_simp
 refine (gflag_is _ _ _).mono ?_
 rintro e w2 ⟨rfl,hw2⟩
 obtain rfl:=hw2.symm
 clear hw2
 refine hK.out _ _ (by simp) (fun hHeld=>?_)
 clear hK K
 refine rtk 6 (h:=?_)
 refine rcl 9 (h:=fun K hK=>?_)
 go_simp
 refine (gflag_is _ _ _).mono ?_
 rintro e w2 ⟨rfl,hw2⟩
 obtain rfl:=hw2.symm
 clear hw2
 refine hK.out _ _ (by simp) (fun hHeld=>?_)
 clear hK K
 refine rtk 10 (h:=?_)
 refine rcl 11 (h:=fun K hK=>?_)
 go_simp
 refine hK.out _ _ (by simp) (fun hHeld=>?_)
 clear hK K
 refine wpAnyH_done (by kernel_rfl) ?_ _
 refine NoPanic.normal ?_
 go_wp2
 go_ret
 refine⟨congrArg (fun z=>Ending.returned (Value.int .i64 z)) (?_:IntKind.i64.wrap (IntKind.i64.wrap (fv dup 8+IntKind.i64.wrap (2*qos))+fv retain 1)=fv dup 8+2*qos+fv retain 1),by go_grown⟩
 simp only[IntKind.wrap_i64]
 omega
def pgfl (b:Int):Int:=if b/16=3 then pgf (btest b 8) (b/2 % 4) (btest b 1) else if b/16=6\/b/16=8\/b/16=10 then 2 else 0
theorem gflags_b (b:Int) (w:World):Calls Tryz.prog 29 #[(bpk b).val] w fun e w'=>e=.returned (.int .i64 (pgfl b))/\Below w.heap.size w w':=by
 unfold pgfl bpk
 by_cases h3:b/16=3
 ·simp only[if_pos h3]
  exact gflags_pub _ w rfl (by simp only[pk0];omega)
 ·simp only[if_neg h3]
  by_cases h6:b/16=6\/b/16=8\/b/16=10
  ·simp only[if_pos h6]
   exact gflags_fixed _ w h6
  ·simp only[if_neg h6]
   exact gflags_other _ w h3 (fun e=>h6 (.inl e)) (fun e=>h6 (.inr (.inl e))) (fun e=>h6 (.inr (.inr e)))
def okF (x:Int):Bool:=!((bits .and .i64 x 1 != 0)||((bits .and .i64 x 4==0)&&(bits .and .i64 x 56 != 0))||(bits .and .i64 x 24==24))
def connectP?:List Int->Option (Cn×List Int) :=
 bindR text? fun m=>bindR (mustR (isMQTT m)) fun _=>bindR one? fun v=>bindR (mustR (v==5)) fun _=>bindR one? fun x=>bindR two? fun k=>bindR (props? 1) fun pr=>bindR text? fun c =>
  bindR (mustR (cfok x)) fun _=>bindR (will? x) fun wl=>bindR (user? x) fun us=>bindR (pass? x) fun pa=>pureR ⟨x,k,pr,c,wl,us,pa⟩
def restC (x k:Int) (pr:List Pr) (c:ByteArray):List Int->Option (Cn×List Int):=bindR (mustR (cfok x)) fun _=>bindR (will? x) fun wl=>bindR (user? x) fun us=>bindR (pass? x) fun pa=>pureR ⟨x,k,pr,c,wl,us,pa⟩
def cn0:Cn:=⟨0,0,[],⟨#[]⟩,none,none,none⟩
def ConnPg (w0:GW) (R A:Nat) (P:Pa) (st:Option (List Int)) (w:World) (e:Ending) (w':World):Prop :=
 e=.returned (.tuple #[])/\∃ (p':Pkv) (n:Cn) (st':Option (List Int)),Pk w' A p'/\Stp connectP? st n st'/\RP w0 w' R st'/\B2 R A w w'/\(st'=none\/Hid (Mean w' w.heap.size p' (ofCn P n)))
theorem okF_is (x:Int) (h0:0<=x) (h1:x<=255):okF x=cfok x:=byte_cases (P:=fun x=>okF x=cfok x) (by decide +kernel) x h0 h1
theorem bind_none' {α β:Type} (o:Option α):(o.bind fun _=>(none:Option β))=none:=by cases o<;>rfl
theorem connectP_eq (l:List Int):connectP? l=connect? l:=by
 unfold connectP? connect? flags?
 simp only[bindR,mustR,pureR]
 cases text? l with
 | none=>rfl
 | some a =>
  simp only[Option.bind_some]
  cases isMQTT a.1
  ·rfl
  ·simp only[if_true,Option.bind_some]
   cases one? a.2 with
   | none=>rfl
   | some b =>
    simp only[Option.bind_some]
    cases (b.1==5)
    ·rfl
    ·simp only[if_true,Option.bind_some]
     cases one? b.2 with
     | none=>rfl
     | some x =>
      simp only[Option.bind_some]
      cases cfok x.1
      ·simp only[Bool.false_eq_true,if_false,Option.bind_none,bind_none']
      ·simp only[if_true,Option.bind_some]
theorem new_row {w:World} {A j:Nat} {u:Value} {B:Nat} {e:TypeId} {s:Nat} {c:Array Value} {l:List Value} (hA:A<w.heap.size) (hB:B<=w.heap.size) (hc:c.toList=l) (hs:l.length=s):((w.alloc (.cells c e)).setCell ⟨A,j,none⟩ u).ownsRow B e s (Sl.val ⟨some ⟨w.heap.size,0,none⟩,1,1⟩) 1 l:=by
 subst hc hs
 refine⟨by simp,.inr ⟨w.heap.size,1,c,rfl,hB,(Below.heap_setCell _ _ _ _ (by show _≠A;omega)).trans Array.getElem?_push_size,Nat.le_refl _,by unfold maxLen;simp,by simp,by simp;exact List.take_of_length_le (by simp)⟩⟩
theorem Stp.not {st:Option (List Int)} {b:Bool} (h:b=false):Stp (mustR b) st () none:=by subst h;cases st<;>rfl
theorem Stp.yes {st:Option (List Int)} {b:Bool} (h:b=true):Stp (mustR b) st () st:=by subst h;exact Stp.must true st
theorem connect_pg (R A:Nat) (d:Bool) (q:Int) (r:Bool) (st:Option (List Int)) (w0:GW) (w:World) (h:RP w0 w R st) (hp:Pk w A (pk0 1 d q r)) (hA:A≠R) (hA0:w0.heap.size<=A):Calls Tryz.prog 87 #[.pointer (some ⟨R,0,none⟩),.pointer (some ⟨A,0,none⟩)] w (ConnPg w0 R A (pa0 1 d q r) st w):=by
 have hRw:=h.lt
 have hAw:=hp.lt
 have hw0:=h.keep.size
 have HP:=zh hp
 have HS:=zh h
 clear hp h
 go_enter Tryz.func87,Tryz.ntmps87
 go_wp2_with fail
 refine (text_pg R st w0 w (uh HS)).mono ?_
 rintro e w1 ⟨m,st1,rfl,hs1,h1,hx1⟩
 have HP1:=zh ((uh HP).oth hx1 hA)
 have HS1:=zh h1
 have HST1:=zh hs1
 have HB1:Hid (B2 R A w w1):=B2.bx hx1
 clear h1 hx1 hs1 HP HS
 cases hm:isMQTT m
 ·obtain⟨bb,c2,f2,_⟩:=(uh HS1).c2
  have HM:=zh hm
  have hm2:(m.toList==[77,81,84,84])=false:=hm
  clear hm
  go_wp2
  go_end0
  exact⟨rfl,_,cn0,none,(uh HP1).blk (Below.heap_setCell _ _ _ _ hA),(uh HST1).bind ((Stp.not (uh HM)).bind rfl),(uh HS1).bad,(uh HB1).setR 2 _,.inl rfl⟩
 have HM:=zh hm
 have hm2:(m.toList==[77,81,84,84])=true:=hm
 clear hm
 go_wp2_with fail
 refine (byte_pg R st1 w0 w1 (uh HS1)).mono ?_
 rintro e w2 ⟨v,st2,rfl,hv,hs2,h2,hx2⟩
 have HP2:=zh ((uh HP1).oth hx2 hA)
 have HS2:=zh h2
 have HST2:Hid (∀ n st',Stp (bindR (mustR (v==5)) fun _=>bindR one? fun x=>bindR two? fun k=>bindR (props? 1) fun pr=>bindR text? fun c=>restC x k pr c) st2 n st'->Stp connectP? st n st'):=fun n st' k=>(uh HST1).bind ((Stp.yes (uh HM)).bind (hs2.bind k))
 have HB2:Hid (B2 R A w w2):=(uh HB1).trans (B2.bx hx2)
 clear h2 hx2 hs2 HP1 HS1 HST1 HB1 HM hm2
 cases hv5:(v==5)
 ·obtain⟨bb,c2,f2,_⟩:=(uh HS2).c2
  have HV:=zh hv5
  go_wp2
  go_end0
  exact⟨rfl,_,cn0,none,(uh HP2).blk (Below.heap_setCell _ _ _ _ hA),(uh HST2) _ _ ((Stp.not (uh HV)).bind rfl),(uh HS2).bad,(uh HB2).setR 2 _,.inl rfl⟩
 have HV:=zh hv5
 go_wp2_with fail
 refine (byte_pg R st2 w0 w2 (uh HS2)).mono ?_
 rintro e w3 ⟨x,st3,rfl,hx,hs3,h3,hx3⟩
 have hp3:=(uh HP2).oth hx3 hA
 have c9:=hp3.clean
 have f9:=hp3.clean_f
 have HP3:=zh (hp3.set_clean (btest x 2))
 have HS3:=zh (h3.set A 9 (.bool (btest x 2)) hA hA0)
 have HST3:Hid (∀ n st',Stp (bindR two? fun k=>bindR (props? 1) fun pr=>bindR text? fun c=>restC x k pr c) st3 n st'->Stp connectP? st n st'):=fun n st' k=>(uh HST2) n st' ((Stp.yes (uh HV)).bind (hs3.bind k))
 have HB3:Hid (B2 R A w (w3.setCell ⟨A,9,none⟩ (.bool (btest x 2)))):=((uh HB2).trans (B2.bx hx3)).set 9 _
 have b2:=and2 x hx.1 hx.2
 clear h3 hx3 hs3 hp3 HP2 HS2 HST2 HB2 HV hv5 hv
 go_wp2_with fail
 refine (pair_pg R st3 w0 _ (uh HS3)).mono ?_
 rintro e w4 ⟨k,st4,rfl,hk,hs4,h4,hx4⟩
 have hp4:=(uh HP3).oth hx4 hA
 have c10:=hp4.keep
 have f10:=hp4.keep_f
 have HP4:=zh (hp4.set_keep k)
 have HS4:=zh (h4.set A 10 (.int .i64 k) hA hA0)
 have HST4:Hid (∀ n st',Stp (bindR (props? 1) fun pr=>bindR text? fun c=>restC x k pr c) st4 n st'->Stp connectP? st n st'):=fun n st' k=>(uh HST3) n st' (hs4.bind k)
 have HB4:Hid (B2 R A w (w4.setCell ⟨A,10,none⟩ (.int .i64 k))):=((uh HB3).trans (B2.bx hx4)).set 10 _
 clear h4 hx4 hs4 hp4 HP3 HS3 HST3 HB3 c9 f9 b2 hk
 go_wp2_with fail
 refine (props_pg R 1 st4 w0 _ (uh HS4)).mono ?_
 rintro e w5 ⟨tp,pr,st5,rfl,hO5,hs5,h5,hx5⟩
 have hp5:=(uh HP4).oth hx5 hA
 have c7:=hp5.props
 have f7:=hp5.props_f
 have HP5:=zh (hp5.set_props tp)
 have HS5:=zh (h5.set A 7 tp.val hA hA0)
 have HST5:Hid (∀ n st',Stp (bindR text? fun c=>restC x k pr c) st5 n st'->Stp connectP? st n st'):=fun n st' k=>(uh HST4) n st' (hs5.bind k)
 have HB5:Hid (B2 R A w (w5.setCell ⟨A,7,none⟩ tp.val)):=((uh HB4).trans (B2.bx hx5)).set 7 _
 have HO5:Hid ((w5.setCell ⟨A,7,none⟩ tp.val).ownsRow w.heap.size 88 4 tp.val pr.length (pcs pr)):=owns_mono (owns_b2 (R:=R) (uh hO5) ((B2.refl R A w5).set 7 _) (Nat.lt_of_lt_of_le hRw (uh HB4).size) (Nat.lt_of_lt_of_le hAw (uh HB4).size)) (uh HB4).size
 clear h5 hx5 hs5 hp5 hO5 HP4 HS4 HST4 HB4 c10 f10
 go_wp2_with fail
 refine (text_pg R st5 w0 _ (uh HS5)).mono ?_
 rintro e w6 ⟨c,st6,rfl,hs6,h6,hx6⟩
 have hp6:=(uh HP5).oth hx6 hA
 have c8:=hp6.client
 have f8:=hp6.client_f
 have HP6:=zh (hp6.set_client c)
 have HS6:=zh (h6.set A 8 (.string c) hA hA0)
 have HST6:Hid (∀ n st',Stp (restC x k pr c) st6 n st'->Stp connectP? st n st'):=fun n st' k=>(uh HST5) n st' (hs6.bind k)
 have HB6:Hid (B2 R A w (w6.setCell ⟨A,8,none⟩ (.string c))):=((uh HB5).trans (B2.bx hx6)).set 8 _
 have HO6:Hid ((w6.setCell ⟨A,8,none⟩ (.string c)).ownsRow w.heap.size 88 4 tp.val pr.length (pcs pr)):=owns_b2 (R:=R) (A:=A) (uh HO5) ((B2.bx hx6).set 8 _) hRw hAw
 clear h6 hx6 hs6 hp6 HP5 HS5 HST5 HB5 HO5 c7 f7
 go_upto_region 7 with fail
 generalize w6.setCell ⟨A,8,none⟩ (.string c)=wq at HP6 HS6 HB6 HO6 |-
 clear c8 f8
 go_cut [57] from 6 (fun s57 wx=>s57=.bool (!okF x)/\wx=wq)
 case first =>
  cases h1:(bits .and .i64 x 1 != 0)
  ·cases h4:(bits .and .i64 x 4==0)
   ·cases h24:(bits .and .i64 x 24==24)
    ·go_wp2
     go_meet
     case rel=>exact⟨by unfold okF;rw[h1,h4,h24];rfl,rfl⟩
    ·go_wp2
     go_meet
     case rel=>exact⟨by unfold okF;rw[h1,h4,h24];rfl,rfl⟩
   ·cases h56:(bits .and .i64 x 56 != 0)
    ·cases h24:(bits .and .i64 x 24==24)
     ·go_wp2
      go_meet
      case rel=>exact⟨by unfold okF;rw[h1,h4,h56,h24];rfl,rfl⟩
     ·go_wp2
      go_meet
      case rel=>exact⟨by unfold okF;rw[h1,h4,h56,h24];rfl,rfl⟩
    ·go_wp2
     go_meet
     case rel=>exact⟨by unfold okF;rw[h1,h4,h56];simp,rfl⟩
  ·go_wp2
   go_meet
   case rel=>exact⟨by unfold okF;rw[h1];simp,rfl⟩
 case rest =>
 obtain⟨rfl,hwq⟩:=hcut
 obtain rfl:wc=wq:=hwq
 obtain⟨wq,hwq⟩:∃ wq,wq=wc:=⟨_,rfl⟩
 subst hwq
 cases hok:okF x
 ·obtain⟨bb,c2,f2,_⟩:=(uh HS6).c2
  have HV:Hid (cfok x=false):=(okF_is x hx.1 hx.2).symm.trans hok
  go_wp2
  go_end0
  exact⟨rfl,_,cn0,none,(uh HP6).blk (Below.heap_setCell _ _ _ _ hA),(uh HST6) _ _ ((Stp.not (uh HV)).bind rfl),(uh HS6).bad,(uh HB6).setR 2 _,.inl rfl⟩
 have HOK:Hid (cfok x=true):=(okF_is x hx.1 hx.2).symm.trans hok
 have hRq:R<wq.heap.size:=(uh HS6).lt
 have hwqs:w.heap.size<=wq.heap.size:=(uh HB6).size
 have hAq:A<wq.heap.size:=(uh HP6).lt
 have h0q:w0.heap.size<=wq.heap.size:=(uh HS6).keep.size
 have b4:=and4 x hx.1 hx.2
 have b32:=and32 x hx.1 hx.2
 have b64:=and64 x hx.1 hx.2
 have b128:=and128 x hx.1 hx.2
 have b3:=shq x hx.1 hx.2
 clear hok
 go_upto_if 63 with fail
 go_cut [] from 5 (fun wx=>∃ (wl:Option (List Pr×ByteArray×ByteArray)) (tw:Sl) (st7:Option (List Int)),Hid (Stp (will? x) st6 wl st7)/\Hid (RP w0 wx R st7)/\Hid (Pk wx A { pk0 1 d q r with clean:=btest x 2,keep:=k,props:=tp,client:=c,wills:=tw })/\Hid (B2 R A wq wx)/\Hid (∃ ws,wx.ownsRow wq.heap.size 90 5 tw.val (wlOf x wl).length (wcs ws)/\Ws wx wq.heap.size ws (wlOf x wl)))
 case first =>
  cases h4:btest x 4
  ·rw[h4]at b4
   go_wp2
   go_meet
   case rel=>exact⟨none,sl0,st6,(by show Stp _ _ _ _;unfold will?;rw[h4];exact Stp.pure _ _),HS6,HP6,B2.refl _ _ _,wills0 _ _⟩
  ·rw[h4]at b4
   go_wp2_with fail
   refine (props_pg R 16 st6 w0 _ ((uh HS6).below (al _))).mono ?_
   rintro e wa ⟨tq,pq,sta,rfl,hOa,hsa,ha,hxa⟩
   have hVlt:wq.heap.size<wa.heap.size:=by have:=hxa.size;simp at this;omega
   have hVb:wa.heap[wq.heap.size]?=some (.cells #[.string ⟨#[]⟩,.string ⟨#[]⟩,.int .i64 (x/8 % 4),.bool (btest x 32),.slice none 0 0] 90):=(hxa.block wq.heap.size (by simp) (by omega)).trans Array.getElem?_push_size
   have a4:wa.cell? ⟨wq.heap.size,4,none⟩=some (.slice none 0 0):=by simp[World.cell?,hVb]
   have fr:∀ j,wa.frozen? ⟨wq.heap.size,j,none⟩=false:=fun j=>(hxa.frz (p:=⟨wq.heap.size,j,none⟩) (by simp) (by simp;omega)).trans (by simp)
   have g4:=fr 4
   have HSa:=zh (ha.set wq.heap.size 4 tq.val (by omega) h0q)
   have HPa:=zh ((((uh HP6).below (al (.cells #[.string ⟨#[]⟩,.string ⟨#[]⟩,.int .i64 (x/8 % 4),.bool (btest x 32),.slice none 0 0] 90))).oth hxa hA).blk (w':=wa.setCell ⟨wq.heap.size,4,none⟩ tq.val) (Below.heap_setCell _ _ _ _ (by show A≠wq.heap.size;omega)))
   have HBa:Hid (B2 R A wq (wa.setCell ⟨wq.heap.size,4,none⟩ tq.val)):=((B2.bel (al _)).trans (B2.bx hxa)).setOut _ 4 _ (Nat.le_refl _)
   have HVa:Hid ((wa.setCell ⟨wq.heap.size,4,none⟩ tq.val).heap[wq.heap.size]?=some (.cells #[.string ⟨#[]⟩,.string ⟨#[]⟩,.int .i64 (x/8 % 4),.bool (btest x 32),tq.val] 90)):=heap_set hVb
   have HOa:Hid ((wa.setCell ⟨wq.heap.size,4,none⟩ tq.val).ownsRow (wq.heap.size+1) 88 4 tq.val pq.length (pcs pq)):=by
    have k:=uh hOa
    simp only[World.alloc,Array.size_push]at k
    exact owns_out k (Nat.lt_succ_self _)
   have HSTa:=zh hsa
   have FR:=zh fr
   clear ha hxa hsa hOa hVb fr
   go_wp2_with fail
   refine (text_pg R sta w0 _ (uh HSa)).mono ?_
   rintro e wb ⟨t,stb,rfl,hsb,hb,hxb⟩
   have hsab:(wa.setCell ⟨wq.heap.size,4,none⟩ tq.val).heap.size=wa.heap.size:=by simp[World.setCell]
   have hVb:wb.heap[wq.heap.size]?=some (.cells #[.string ⟨#[]⟩,.string ⟨#[]⟩,.int .i64 (x/8 % 4),.bool (btest x 32),tq.val] 90):=(hxb.block wq.heap.size (by rw[hsab];exact hVlt) (by omega)).trans (uh HVa)
   have v0:wb.cell? ⟨wq.heap.size,0,none⟩=some (.string ⟨#[]⟩):=by simp[World.cell?,hVb]
   have fr:∀ j,wb.frozen? ⟨wq.heap.size,j,none⟩=false:=fun j=>(hxb.frz (p:=⟨wq.heap.size,j,none⟩) (by rw[hsab];exact hVlt) (by simp;omega)).trans (by simpa using (uh FR) j)
   have g0:=fr 0
   have hVltb:wq.heap.size<wb.heap.size:=Nat.lt_of_lt_of_le hVlt (by rw[<- hsab];exact hxb.size)
   have HSb:=zh (hb.set wq.heap.size 0 (.string t) (by omega) h0q)
   have HPb:=zh (((uh HPa).oth hxb hA).blk (w':=wb.setCell ⟨wq.heap.size,0,none⟩ (.string t)) (Below.heap_setCell _ _ _ _ (by show A≠wq.heap.size;omega)))
   have HBb:Hid (B2 R A wq (wb.setCell ⟨wq.heap.size,0,none⟩ (.string t))):=((uh HBa).trans (B2.bx hxb)).setOut _ 0 _ (Nat.le_refl _)
   have HVb:Hid ((wb.setCell ⟨wq.heap.size,0,none⟩ (.string t)).heap[wq.heap.size]?=some (.cells #[.string t,.string ⟨#[]⟩,.int .i64 (x/8 % 4),.bool (btest x 32),tq.val] 90)):=heap_set hVb
   have HOb:Hid ((wb.setCell ⟨wq.heap.size,0,none⟩ (.string t)).ownsRow (wq.heap.size+1) 88 4 tq.val pq.length (pcs pq)):=owns_out (owns_bx (uh HOa) hxb (by omega)) (Nat.lt_succ_self _)
   have HSTb:=zh hsb
   have FRb:=zh fr
   clear hb hxb hsb hVb fr HSa HPa HBa HVa HOa FR a4 g4 hsab hVlt
   go_wp2_with fail
   refine (bin_pg R stb w0 _ (uh HSb)).mono ?_
   rintro e wd ⟨y,stc,rfl,hsc,hc,hxc⟩
   have hsab:(wb.setCell ⟨wq.heap.size,0,none⟩ (.string t)).heap.size=wb.heap.size:=by simp[World.setCell]
   have hVb:wd.heap[wq.heap.size]?=some (.cells #[.string t,.string ⟨#[]⟩,.int .i64 (x/8 % 4),.bool (btest x 32),tq.val] 90):=(hxc.block wq.heap.size (by rw[hsab];exact hVltb) (by omega)).trans (uh HVb)
   have v1:wd.cell? ⟨wq.heap.size,1,none⟩=some (.string ⟨#[]⟩):=by simp[World.cell?,hVb]
   have g1:wd.frozen? ⟨wq.heap.size,1,none⟩=false:=(hxc.frz (p:=⟨wq.heap.size,1,none⟩) (by rw[hsab];exact hVltb) (by simp;omega)).trans (by simpa using (uh FRb) 1)
   have HSc:=zh (hc.set wq.heap.size 1 (.string y) (by omega) h0q)
   have HPc:=zh (((uh HPb).oth hxc hA).blk (w':=wd.setCell ⟨wq.heap.size,1,none⟩ (.string y)) (Below.heap_setCell _ _ _ _ (by show A≠wq.heap.size;omega)))
   have HBc:Hid (B2 R A wq (wd.setCell ⟨wq.heap.size,1,none⟩ (.string y))):=((uh HBb).trans (B2.bx hxc)).setOut _ 1 _ (Nat.le_refl _)
   have HVc:Hid ((wd.setCell ⟨wq.heap.size,1,none⟩ (.string y)).heap[wq.heap.size]?=some (.cells #[.string t,.string y,.int .i64 (x/8 % 4),.bool (btest x 32),tq.val] 90)):=heap_set hVb
   have HOc:Hid ((wd.setCell ⟨wq.heap.size,1,none⟩ (.string y)).ownsRow (wq.heap.size+1) 88 4 tq.val pq.length (pcs pq)):=owns_out (owns_bx (uh HOb) hxc (by omega)) (Nat.lt_succ_self _)
   have HST7:Hid (Stp (will? x) st6 (some (pq,t,y)) stc):=by
    show Stp _ _ _ _
    unfold will?
    rw[if_pos h4]
    exact (uh HSTa).bind ((uh HSTb).bind (hsc.bind (Stp.pure _ _)))
   clear hc hxc hsc hVb HSb HPb HBb HVb HOb FRb v0 g0 hsab hVltb HSTa HSTb
   go_upto_region 14 with fail
   generalize wd.setCell ⟨wq.heap.size,1,none⟩ (.string y)=we at HSc HPc HBc HVc HOc |-
   clear v1 g1
   have hVe:=uh HVc
   have d0:we.cell? ⟨wq.heap.size,0,none⟩=some (.string t):=by simp[World.cell?,hVe]
   have d1:we.cell? ⟨wq.heap.size,1,none⟩=some (.string y):=by simp[World.cell?,hVe]
   have d2:we.cell? ⟨wq.heap.size,2,none⟩=some (.int .i64 (x/8 % 4)):=by simp[World.cell?,hVe]
   have d3:we.cell? ⟨wq.heap.size,3,none⟩=some (.bool (btest x 32)):=by simp[World.cell?,hVe]
   have d4:we.cell? ⟨wq.heap.size,4,none⟩=some tq.val:=by simp[World.cell?,hVe]
   have hpe:=(uh HPc).below (al (.cells #[.string t,.string y,.int .i64 (x/8 % 4),.bool (btest x 32),tq.val] 90))
   have c11:=hpe.wills
   have f11:=hpe.wills_f
   simp only[pk0]at c11
   have HPe:=zh hpe
   clear hpe
   clear hVe
   go_wp2
   go_meet
   case rel =>
    have hqe:wq.heap.size<=we.heap.size:=(uh HBc).size
    refine⟨some (pq,t,y),⟨some ⟨we.heap.size,0,none⟩,1,1⟩,stc,HST7,((uh HSc).below (al _)).set A 11 _ hA hA0,(uh HPe).set_wills ⟨some ⟨we.heap.size,0,none⟩,1,1⟩,((uh HBc).trans (B2.bel (al _))).set 11 _,⟨[⟨t,y,x/8 % 4,btest x 32,tq⟩],new_row (by omega) hqe rfl rfl,rfl,fun i a b ha hb=>?_⟩⟩
    match i,ha,hb with
    | 0,ha,hb =>
     simp[wlOf]at ha hb
     subst ha hb
     exact⟨rfl,rfl,rfl,rfl,owns_mono (owns_b2 (R:=R) (A:=A) ((uh HOc).alloc _) ((B2.refl R A _).set 11 _) (by omega) (by omega)) (Nat.le_succ _)⟩
    | i+1,ha,_=>simp at ha
 case rest =>
 obtain⟨wl,tw,st7,HST7,HS7,HP7,HB7,HW7⟩:=hcut
 obtain⟨wt,hwt⟩:∃ wt,wt=wc:=⟨_,rfl⟩
 subst hwt
 have HO7:Hid (wt.ownsRow w.heap.size 88 4 tp.val pr.length (pcs pr)):=owns_b2 (uh HO6) (uh HB7) hRw hAw
 have HB7':Hid (B2 R A w wt):=(uh HB6).trans (uh HB7)
 have hq7:wq.heap.size<=wt.heap.size:=(uh HB7).size
 clear HO6 HB6 HP6 HS6 b4 b32 b3
 go_upto_if 87 with fail
 go_cut [] from 5 (fun wx=>∃ (us:Option ByteArray) (tu:Sl) (st8:Option (List Int)),Hid (Stp (user? x) st7 us st8)/\Hid (RP w0 wx R st8)/\Hid (Pk wx A { pk0 1 d q r with clean:=btest x 2,keep:=k,props:=tp,client:=c,wills:=tw,user:=tu })/\Hid (B2 R A wt wx)/\Hid (wx.ownsRow wt.heap.size 9 1 tu.val us.toList.length (us.toList.map Value.string)))
 case first =>
  cases h4:btest x 128
  ·rw[h4]at b128
   go_wp2
   go_meet
   case rel=>exact⟨none,sl0,st7,(by show Stp _ _ _ _;unfold user?;rw[h4];exact Stp.pure _ _),HS7,HP7,B2.refl _ _ _,row0 _ _ _ _⟩
  ·rw[h4]at b128
   go_wp2_with fail
   refine (text_pg R st7 w0 _ (uh HS7)).mono ?_
   rintro e wa ⟨u,sta,rfl,hsa,ha,hxa⟩
   have hpa:=((uh HP7).oth hxa hA).below (al (.cells #[.string u] 9))
   have c12:=hpa.user
   have f12:=hpa.user_f
   simp only[pk0]at c12
   have HPa:=zh hpa
   have HSa:=zh ha
   have HXa:=zh hxa
   have HSTa:=zh hsa
   clear ha hxa hsa hpa
   go_wp2
   go_meet
   case rel =>
    have hqe:wt.heap.size<=wa.heap.size:=(uh HXa).size
    have hAa:A<wa.heap.size:=Nat.lt_of_lt_of_le hAq (Nat.le_trans hq7 hqe)
    exact⟨some u,⟨some ⟨wa.heap.size,0,none⟩,1,1⟩,sta,(by show Stp _ _ _ _;unfold user?;rw[if_pos h4];exact (uh HSTa).bind (Stp.pure _ _)),((uh HSa).below (al _)).set A 12 _ hA hA0,(uh HPa).set_user ⟨some ⟨wa.heap.size,0,none⟩,1,1⟩,((B2.bx (uh HXa)).trans (B2.bel (al _))).set 12 _,new_row hAa hqe rfl rfl⟩
 case rest =>
 obtain⟨us,tu,st8,HST8,HS8,HP8,HB8,HU8⟩:=hcut
 obtain⟨wz,hwz⟩:∃ wz,wz=wc:=⟨_,rfl⟩
 subst hwz
 have hz:wt.heap.size<=wz.heap.size:=(uh HB8).size
 have HO8:Hid (wz.ownsRow w.heap.size 88 4 tp.val pr.length (pcs pr)):=owns_b2 (uh HO7) (uh HB8) hRw hAw
 have hwq:w.heap.size<=wq.heap.size:=hwqs
 have HW8:Hid (∃ ws,wz.ownsRow wq.heap.size 90 5 tw.val (wlOf x wl).length (wcs ws)/\Ws wz wq.heap.size ws (wlOf x wl)):=by
  obtain⟨ws,a,b,c⟩:=uh HW7
  exact⟨ws,owns_b2 a (uh HB8) hRq hAq,b,fun i u v hu hv=>⟨(c i u v hu hv).1,(c i u v hu hv).2.1,(c i u v hu hv).2.2.1,(c i u v hu hv).2.2.2.1,owns_b2 (c i u v hu hv).2.2.2.2 (uh HB8) hRq hAq⟩⟩
 have HB8':Hid (B2 R A w wz):=(uh HB7').trans (uh HB8)
 have hRz:R<wt.heap.size:=Nat.lt_of_lt_of_le hRq hq7
 have hAz:A<wt.heap.size:=Nat.lt_of_lt_of_le hAq hq7
 -- whatever comes of the password,the end
 have HEND:Hid (∀ (W:World) (pa:Option ByteArray) (ta:Sl) (st9:Option (List Int)),B2 R A wz W->Stp (pass? x) st8 pa st9->RP w0 W R st9->Pk W A { pk0 1 d q r with clean:=btest x 2,keep:=k,props:=tp,client:=c,wills:=tw,user:=tu,pass:=ta }->W.ownsRow wz.heap.size 9 1 ta.val pa.toList.length (pa.toList.map Value.string)->ConnPg w0 R A (pa0 1 d q r) st w (.returned (.tuple #[])) W):=by
  intro W pa ta st9 hB hst hS hP hO
  refine⟨rfl,_,⟨x,k,pr,c,wl,us,pa⟩,st9,hP,(uh HST6) _ _ ((Stp.yes (uh HOK)).bind ((uh HST7).bind ((uh HST8).bind (hst.bind (Stp.pure _ _))))),hS,(uh HB8').trans hB,.inr ?_⟩
  refine⟨⟨rfl,rfl,rfl,rfl,rfl,rfl,rfl,rfl,rfl,rfl,rfl,rfl⟩,owns_b2 (uh HO8) hB hRw hAw,?_,owns_mono (owns_b2 (uh HU8) hB hRz hAz) (Nat.le_trans hwq hq7),owns_mono hO (Nat.le_trans (Nat.le_trans hwq hq7) hz),row0 _ _ _ _,row0 _ _ _ _,row0 _ _ _ _⟩
  obtain⟨ws,a,b,c⟩:=uh HW8
  exact⟨ws,owns_mono (owns_b2 a hB hRq hAq) hwq,b,fun i u v hu hv=>⟨(c i u v hu hv).1,(c i u v hu hv).2.1,(c i u v hu hv).2.2.1,(c i u v hu hv).2.2.2.1,owns_mono (owns_b2 (c i u v hu hv).2.2.2.2 hB hRq hAq) hwq⟩⟩
 have hAwz:A<wz.heap.size:=Nat.lt_of_lt_of_le hAz hz
 clear HST6 HOK HST7 HST8 HW7 HW8 HO7 HO8 HU8 HB7 HB7' HB8 HB8' HS7 HP7 hwqs
 cases h4:btest x 64
 ·rw[h4]at b64
  go_wp2
  go_end0
  exact uh HEND wz none sl0 st8 (B2.refl _ _ _) (by unfold pass?;rw[h4];exact Stp.pure _ _) (uh HS8) (uh HP8) (row0 _ _ _ _)
 ·rw[h4]at b64
  go_wp2_with fail
  refine (bin_pg R st8 w0 _ (uh HS8)).mono ?_
  rintro e wa ⟨u,sta,rfl,hsa,ha,hxa⟩
  have hpa:=((uh HP8).oth hxa hA).below (al (.cells #[.string u] 9))
  have c13:=hpa.pass
  have f13:=hpa.pass_f
  simp only[pk0]at c13
  have HPa:=zh hpa
  have HSa:=zh ha
  have HXa:=zh hxa
  have HSTa:=zh hsa
  clear ha hxa hsa hpa
  go_wp2
  go_end0
  have hqe:wz.heap.size<=wa.heap.size:=(uh HXa).size
  exact uh HEND _ (some u) ⟨some ⟨wa.heap.size,0,none⟩,1,1⟩ sta (((B2.bx (uh HXa)).trans (B2.bel (al _))).set 13 _) (by unfold pass?;rw[if_pos h4];exact (uh HSTa).bind (Stp.pure _ _)) (((uh HSa).below (al _)).set A 13 _ hA hA0) ((uh HPa).set_pass ⟨some ⟨wa.heap.size,0,none⟩,1,1⟩) (new_row (Nat.lt_of_lt_of_le hAwz hqe) hqe rfl rfl)
def BodyPg (w0:GW) (R A:Nat) (P:Pa) (st:Option (List Int)) (w:World) (e:Ending) (w':World):Prop :=
 e=.returned (.tuple #[])/\∃ (p':Pkv) (P':Pa) (st':Option (List Int)),Pk w' A p'/\Stp (body? P) st P' st'/\RP w0 w' R st'/\B2 R A w w'/\(st'=none\/Hid (Mean w' w.heap.size p' P'))
theorem body_1 (R A:Nat) (d:Bool) (q:Int) (r:Bool) (st:Option (List Int)) (w0:GW) (w:World) (h:RP w0 w R st) (hp:Pk w A (pk0 1 d q r)) (hA:A≠R) (hA0:w0.heap.size<=A):Calls Tryz.prog 41 #[.pointer (some ⟨R,0,none⟩),.pointer (some ⟨A,0,none⟩)] w (BodyPg w0 R A (pa0 1 d q r) st w):=by
 have hRw:=h.lt
 have hAw:=hp.lt
 have c0:=hp.kind
 simp only[pk0]at c0
 have HP:=zh hp
 have HS:=zh h
 clear hp h
 go_enter Tryz.func41,Tryz.ntmps41
 go_wp2_with fail
 refine (connect_pg R A d q r st w0 w (uh HS) (uh HP) hA hA0).mono ?_
 rintro e w1 ⟨rfl,p',n,st',h1,h2,h3,h4,h5⟩
 have H1:=zh h1
 have H2:=zh h2
 have H3:=zh h3
 have H4:=zh h4
 have H5:=zh h5
 clear h1 h2 h3 h4 h5
 go_wp2
 go_end0
 have k:Stp (body? (pa0 1 d q r)) st (ofCn (pa0 1 d q r) n) st':=Stp.bind (g:=fun n=>pureR (ofCn (pa0 1 d q r) n)) (Stp.congr connectP_eq (uh H2)) (Stp.pure _ _)
 exact⟨rfl,p',_,st',uh H1,k,uh H3,uh H4,uh H5⟩
end Go.Proofs.YtmpijpjlbhfccaaGreatDoor.K
