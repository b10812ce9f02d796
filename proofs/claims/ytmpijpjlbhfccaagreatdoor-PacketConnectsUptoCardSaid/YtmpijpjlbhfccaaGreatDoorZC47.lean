/- Helpers of the proof. -/
import Derived.Test.YtmpijpjlbhfccaaGreatDoorZC46
import Derived.Test.YtmpijpjlbhfccaaGreatDoorZC45
import Derived.Test.YtmpijpjlbhfccaaGreatDoorZC22
import Derived.Test.YtmpijpjlbhfccaaGreatDoorZC42
import Derived.Test.YtmpijpjlbhfccaaGreatDoorZC26
import Derived.Test.YtmpijpjlbhfccaaGreatDoorZC20
import Derived.Test.YtmpijpjlbhfccaaGreatDoorZC12
import Derived.Test.YtmpijpjlbhfccaaGreatDoorZC14
import Derived.Test.YtmpijpjlbhfccaaGreatDoorZC35
import Derived.Test.YtmpijpjlbhfccaaGreatDoorZC28
set_option maxHeartbeats 20000000
namespace Go.Proofs.YtmpijpjlbhfccaaGreatDoor.K
open Go.RowKit
set_option maxRecDepth 100000
def BdAt (b:Int):Prop:=∀ (R A:Nat) (st:Option (List Int)) (w0:GW) (w:World),RP w0 w R st->Pk w A (bpk b)->A≠R->w0.heap.size<=A->(∀ l,st=some l->l.length<=65536)->Calls Tryz.prog 41 #[.pointer (some ⟨R,0,none⟩),.pointer (some ⟨A,0,none⟩)] w (BodyPg w0 R A (bpa b) st w)
def pnum (lim:Int) (l:List Int):Int:=if hnum lim l≠0 then hnum lim l else if l.length<1+ghd (l.drop 1)+(gid (l.drop 1)).toNat then 3 else if (dbody l).isSome then 0 else 1
def PDecPost (lim:Int) (l:List Int) (w:World) (e:Ending) (w':World):Prop :=
 ∃ (q:Pkv) (n:Nat),e=.returned (.tuple #[q.val,.int .i64 n,.int .i64 (pnum lim l)]) /\
  ((pnum lim l≠0/\q=pkz/\n=0)\/(pnum lim l=0/\n=(meas l).2.1/\∃ P r,dbody l=some (P,r)/\Hid (Mean w' w.heap.size q P)))/\Below w.heap.size w w'
theorem hnum_zero {lim:Int} {l:List Int} (h:hnum lim l=0):l≠[]/\bok (l.getD 0 0)=true/\(V.vget (l.drop 1)).2.2=0/\((1+ghd (l.drop 1)+(gid (l.drop 1)).toNat:Nat):Int)<=lim:=by
 unfold hnum at h
 by_cases h1:l=[]
 ·rw[if_pos h1]at h;cases h
 ·rw[if_neg h1]at h
  cases h2:bok (l.getD 0 0)
  ·rw[if_pos h2]at h;cases h
  ·rw[if_neg (by rw[h2];decide)]at h
   by_cases h3:(V.vget (l.drop 1)).2.2=0
   ·rw[if_neg (by rw[h3];decide)]at h
    by_cases h4:lim<((1+ghd (l.drop 1)+(gid (l.drop 1)).toNat:Nat):Int)
    ·rw[if_pos h4]at h;cases h
    ·exact⟨h1,rfl,h3,by omega⟩
   ·rw[if_pos h3]at h;exact absurd h h3
theorem pdec_bad (lim:Int) (l:List Int) (w w':World) (m:Int) (hm:pnum lim l=m) (h0:m≠0) (hb:Below w.heap.size w w'):PDecPost lim l w (.returned (.tuple #[pkz.val,.int .i64 0,.int .i64 m])) w' :=
 ⟨pkz,0,by rw[hm];rfl,.inl ⟨by rw[hm];exact h0,rfl,rfl⟩,hb⟩
theorem rp_new (w0:GW) (w:World) (ao:Option Addr) (n cap:Nat) (L:List Int) (h:Byt w0 (.slice ao n cap) L) (hn:n<=140737488355328) (hN:n=w0.N) (hw:Below w0.heap.size w0 w):RP w0 (w.alloc (.cells #[.slice ao n cap,.int .i64 0,.bool false] 84)) w.heap.size (some L) :=
 ⟨ao,n,cap,0,false,L,⟨by simp,⟨by simp,by simp⟩,by simp,by simp⟩,h,Nat.zero_le _,⟨hn,hN⟩,hw.alloc hw.size _,hw.size,by simp⟩
theorem pdec_some (bl off cap:Nat) (l:List Int) (lim:Int) (w:World) (h:Byt w (.slice (some ⟨bl,off,none⟩) l.length cap) l) (hlim:lim<=65536) (HBA:Hid (bok (l.getD 0 0)=true->BdAt (l.getD 0 0))):Calls Tryz.prog 14 #[.slice (some ⟨bl,off,none⟩) l.length cap,.int .i64 lim] w (PDecPost lim l w):=by
 have HPN:=zh (pk_new w pkz)
 have HBN:Hid (Below w.heap.size w (w.alloc (.cells pkz.cells.toArray 31))):=bal _ _
 obtain⟨hc1,hc2⟩:l.length<=cap/\cap<=maxLen:=(byt_len h).2
 unfold maxLen at hc2
 have HH:=zh h
 have HRG:=zh h.range
 have HPD:=zh (pdec_bad lim l w)
 have HPU:Hid (pnum lim l=if hnum lim l≠0 then hnum lim l else if l.length<1+ghd (l.drop 1)+(gid (l.drop 1)).toNat then 3 else if (dbody l).isSome then 0 else 1):=rfl
 have HHN:=zh (head_pg (.slice (some ⟨bl,off,none⟩) l.length cap) l lim)
 generalize hn:l.length=n at hc1 HH HPU HHN
 have HN:=zh hn
 clear h hn
 go_enter Tryz.func14,Tryz.ntmps14
 go_upto_region 1 with fail
 change Code.wp _ _ _ _ (w.alloc (.cells pkz.cells.toArray 31))
 generalize w.alloc (.cells pkz.cells.toArray 31)=w1 at HPN HBN |-
 have HG:=zh ((uh HHN) w1 ((uh HH).below (uh HBN)))
 have hlt1:=(uh HPN).lt
 clear HHN
 go_wp2_with fail
 refine (uh HG).mono ?_
 rintro e w2 ⟨q,a,m,rfl,hq,hb2⟩
 have HP2:=zh ((uh HPN).below hb2)
 have HB2:Hid (Below w.heap.size w w2):=(uh HBN).trans (hb2.mono (uh HBN).size)
 have hlt2:w.heap.size<w2.heap.size:=Nat.lt_of_lt_of_le hlt1 hb2.size
 have HQ:=zh hq
 clear HPN HBN HG hb2 hq
 dsimp only
 iterate 16 go_step
 refine wpList_value rfl (packet_alloc _ _ _ _ _ _) ?_
 simp only[sp]
 refine wpList_skip rfl (packet_store _ _ _ _ _ _ _ q _ rfl rfl) ?_
 simp only[Act.put]
 have HPA:=zh (pk_new w2 q)
 have HP4:=zh ((uh HP2).below (al (.cells q.cells.toArray 31)))
 have HB3:Hid (Below w.heap.size w (w2.alloc (.cells q.cells.toArray 31))):=(uh HB2).alloc (Nat.le_of_lt hlt2) _
 obtain⟨A,hA⟩:∃ A,A=w2.heap.size:=⟨_,rfl⟩
 rw[<- hA]at HPA hlt2 |-
 have hA3:A<(w2.alloc (.cells q.cells.toArray 31)).heap.size:=by rw[hA];simp
 generalize w2.alloc (.cells q.cells.toArray 31)=w3 at HPA HP4 HB3 hA3 |-
 clear HP2 HB2 hA
 generalize hh:hnum lim l=hm at HQ HPU |-
 have HH0:hm=0->hnum lim l=0:=fun e=>hh.trans e
 clear hh
 by_cases h0:hm=0
 ·subst h0
  obtain⟨rfl,ha,hmm⟩:=(uh HQ) rfl
  rw[if_neg (by decide),<- ha,<- hmm]at HPU
  obtain⟨hl0,hok,hvz,hle⟩:=hnum_zero (HH0 rfl)
  rw[<- ha,<- hmm]at hle
  have hle2:a+m<=65536:=by omega
  have HB0:Hid (0<=l.getD 0 0/\l.getD 0 0<=255):=(uh HRG) 0
  have HOK:=zh hok
  have HMS:Hid (a+m<=n->meas l=(a,a+m,0)):=fun k=>by
   unfold meas
   rw[if_neg (by rw[hvz];decide),<- ha,<- hmm,if_neg (by omega),if_neg (by rw[uh HN];omega)]
  clear hl0 hok hvz hle HQ HH0
  have HA:=zh ha
  clear ha hmm HRG
  by_cases hsh:n<a+m
  ·rw[if_pos hsh]at HPU
   go_upto_region 5 with fail
   iterate 4 go_step
   refine wpList_store_mid rfl 31 _ _ rfl w.heap.size 0 pkz.cells.toArray rfl rfl ((uh HP4).there _) packet_size (Pkv.ones' _) ?_
   simp only[Act.put]
   have HPS:=zh ((uh HP4).stored pkz)
   have HBS:Hid (Below w.heap.size w (w3.setCells w.heap.size 0 pkz.cells)):=setCells_below (uh HB3) (Nat.le_refl _)
   generalize w3.setCells w.heap.size 0 pkz.cells=wS at HPS HBS |-
   go_wp2
   refine bodyPost_ret (res_pk3 (B:=w.heap.size) (q:=pkz) rfl rfl (uh HPS)) rfl ?_
   exact (uh HPD) _ 3 (uh HPU) (by decide) (uh HBS)
  rw[if_neg hsh]at HPU
  have HM2:=zh ((uh HMS) (by omega))
  have HMID:=zh ((uh HH).mid a m (by omega))
  clear HMS
  have hDB:dbody l=packet? (bpa (l.getD 0 0)) ((l.drop a).take m):=by
   unfold dbody
   rw[uh HM2]
   show packet? _ ((l.drop a).take (a+m-a))=_
   rw[Nat.add_sub_cancel_left]
  have HLL:Hid (((l.drop a).take m).length=m):=by
   show _=_
   rw[List.length_take,List.length_drop,uh HN]
   omega
  have HDB:=zh hDB
  clear hDB
  generalize (l.drop a).take m=L at HMID HDB HLL
  have HBD:=zh (fun (R:Nat) (W:World)=>(uh HBA) (uh HOK) R A (some L) ⟨w,m⟩ W)
  clear HBA
  have hA0:w.heap.size<=A:=Nat.le_of_lt hlt2
  go_upto_region 6 with fail
  go_cut [11] from 12 (fun s11 wx=>∃ R:Nat,s11=.pointer (some ⟨R,0,none⟩)/\A<R/\Hid (RP ⟨w,m⟩ wx R (some L))/\Hid (Pk wx A (bpk (l.getD 0 0)))/\Hid (Pk wx w.heap.size pkz)/\Hid (Below w.heap.size w wx))
  case first =>
   by_cases hcap:cap=a
   ·have HT:Hid (Byt w (.slice (some ⟨bl,off,none⟩) 0 0) L):=by
     show Byt _ _ _
     have k:=uh HMID
     rw[if_pos hcap,show m=0 by omega,show cap-a=0 by omega]at k
     exact k
    clear HMID
    obtain rfl:m=0:=by omega
    obtain rfl:a=n:=by omega
    subst hcap
    go_wp2
    go_meet
    case rel=>exact⟨w3.heap.size,rfl,hA3,rp_new ⟨w,_⟩ w3 _ _ _ L (uh HT) (by omega) rfl (uh HB3),(uh HPA).below (al _),(uh HP4).below (al _),(uh HB3).alloc (uh HB3).size _⟩
   ·have HT:Hid (Byt w (.slice (some ⟨bl,off+a,none⟩) m (cap-a)) L):=by
     show Byt _ _ _
     have k:=uh HMID
     rw[if_neg hcap]at k
     exact k
    clear HMID
    go_wp2
    go_meet
    case rel=>exact⟨w3.heap.size,rfl,hA3,rp_new ⟨w,_⟩ w3 _ _ _ L (uh HT) (by omega) rfl (uh HB3),(uh HPA).below (al _),(uh HP4).below (al _),(uh HB3).alloc (uh HB3).size _⟩
  case rest =>
  obtain⟨R,rfl,hAR,HR,HPA',HP4',HB3'⟩:=hcut
  obtain⟨wx,hwx⟩:∃ wx,wx=wc:=⟨_,rfl⟩
  subst hwx
  clear HPA HP4 HB3 HMID hA3
  have hRx:R<wx.heap.size:=(uh HR).lt
  have HG:=zh ((uh HBD) R wx (uh HR) (uh HPA') (by omega) hA0 (fun l' e=>by cases e;rw[uh HLL];omega))
  clear HBD
  go_wp2_with fail
  refine (uh HG).mono ?_
  rintro e wy ⟨rfl,p',P',st',hp,hst,hrp,hb2,hmean⟩
  have h4y:Pk wy w.heap.size pkz:=(uh HP4').blk (hb2.block w.heap.size (uh HP4').lt (by omega) (by omega))
  have hby:Below w.heap.size w wy:=hb2.keep (uh HB3') (by omega) hA0
  have HP4:=zh h4y
  have HB3:=zh hby
  have HPA:=zh hp
  have HST:=zh hst
  have HME:=zh hmean
  have hsx:w.heap.size<=wx.heap.size:=(uh HB3').size
  clear h4y hby hp hst hmean HG HPA' HP4' HB3' hb2
  obtain⟨ao,n',cap',k',bad,L',hc,hy',hk',⟨hn',hN'⟩,hw',hR',hst'⟩:=hrp
  have hN2:n'=m:=uh hN'
  subst hN2
  have hL':=(byt_len hy').1
  obtain⟨c0,⟨c1,f1⟩,c2,f2⟩:=hc
  have hrest:Stp (packet? (bpa (l.getD 0 0))) (some L) P' (if st'=some [] then some [] else none):=by
   unfold packet?
   refine (uh HST).bind ((?_:Stp endR st' () (if st'=some [] then some [] else none)).bind (Stp.pure _ _))
   cases st' with
   | none=>rfl
   | some l'=>cases l' with
    | nil=>exact⟨rfl,rfl⟩
    | cons x t=>rfl
  have HKN:Hid ((st'=some []) ↔ (bad=false/\k'=n')):=by
   show _ ↔ _
   rw[hst']
   cases bad
   ·constructor
    ·intro e
     refine⟨rfl,?_⟩
     have:=congrArg List.length (Option.some.inj e)
     rw[List.length_drop,hL']at this
     simp at this
     omega
    ·rintro⟨_,rfl⟩
     show some (L'.drop k')=some []
     rw[List.drop_of_length_le (by omega)]
   ·constructor
    ·intro e;cases e
    ·rintro⟨e,_⟩;cases e
  have HE:=zh hrest
  have HBAD:Hid (¬ (bad=false/\k'=n')->pnum lim l=1):=fun hne=>by
   have k:=uh HE
   rw[if_neg (fun e=>hne ((uh HKN).1 e))]at k
   rw[uh HPU,uh HDB,stp_none k]
   rfl
  clear hN' hL' hy' hw' hR' hst' hrest hn'
  cases bad
  ·by_cases hkn:k'=n'
   ·have e1:st'=some []:=(uh HKN).2 ⟨rfl,hkn⟩
    have k:=uh HE
    rw[if_pos e1]at k
    have hdb:dbody l=some (P',[]):=(uh HDB).trans (stp_some k)
    have HME2:Hid (Mean wy wx.heap.size p' P'):=by
     rcases uh HME with h|h
     ·rw[e1]at h;cases h
     ·exact h
    have HDB2:=zh hdb
    have HPU0:Hid (pnum lim l=0):=by
     show _=_
     rw[uh HPU,hdb]
     rfl
    have hkb:((k':Int) != (n':Int))=false:=by simp[hkn]
    clear e1 k hdb HKN HE HBAD hkn HPU HME
    go_upto_region 10 with fail
    go_step
    refine wpList_load_mid rfl 31 _ rfl A 0 rfl p'.cells _ (uh HPA).range Tryz.underlying31 rfl packet_size ?_
    simp only[sp]
    iterate 9 go_step
    refine wpList_store_mid rfl 31 _ _ rfl w.heap.size 0 p'.cells.toArray rfl rfl ((uh HP4).there _) packet_size (Pkv.ones' _) ?_
    simp only[Act.put]
    have HPS:=zh ((uh HP4).stored p')
    have HBS:Hid (Below w.heap.size w (wy.setCells w.heap.size 0 p'.cells)):=setCells_below (uh HB3) (Nat.le_refl _)
    have HMS:Hid (Mean (wy.setCells w.heap.size 0 p'.cells) w.heap.size p' P'):=((uh HME2).cells (by omega)).base hsx
    generalize wy.setCells w.heap.size 0 p'.cells=wS at HPS HBS HMS |-
    go_wp2
    refine bodyPost_ret (res_pk3 (B:=w.heap.size) (q:=p') rfl rfl (uh HPS)) rfl ?_
    exact⟨p',a+n',by rw[uh HPU0];exact (by go_num),.inr ⟨uh HPU0,by rw[uh HM2],P',[],uh HDB2,HMS⟩,uh HBS⟩
   ·have hp1:=(uh HBAD) (fun e=>hkn e.2)
    have HP1:=zh hp1
    have hkb:((k':Int) != (n':Int))=true:=by simp;omega
    clear hp1 HKN HE HBAD HPU HME
    go_upto_region 9 with fail
    iterate 4 go_step
    refine wpList_store_mid rfl 31 _ _ rfl w.heap.size 0 pkz.cells.toArray rfl rfl ((uh HP4).there _) packet_size (Pkv.ones' _) ?_
    simp only[Act.put]
    have HPS:=zh ((uh HP4).stored pkz)
    have HBS:Hid (Below w.heap.size w (wy.setCells w.heap.size 0 pkz.cells)):=setCells_below (uh HB3) (Nat.le_refl _)
    generalize wy.setCells w.heap.size 0 pkz.cells=wS at HPS HBS |-
    go_wp2
    refine bodyPost_ret (res_pk3 (B:=w.heap.size) (q:=pkz) rfl rfl (uh HPS)) rfl ?_
    exact (uh HPD) _ 1 (uh HP1) (by decide) (uh HBS)
  ·have hp1:=(uh HBAD) (fun e=>by cases e.1)
   have HP1:=zh hp1
   clear hp1 HKN HE HBAD HPU HME
   go_upto_region 9 with fail
   iterate 4 go_step
   refine wpList_store_mid rfl 31 _ _ rfl w.heap.size 0 pkz.cells.toArray rfl rfl ((uh HP4).there _) packet_size (Pkv.ones' _) ?_
   simp only[Act.put]
   have HPS:=zh ((uh HP4).stored pkz)
   have HBS:Hid (Below w.heap.size w (wy.setCells w.heap.size 0 pkz.cells)):=setCells_below (uh HB3) (Nat.le_refl _)
   generalize wy.setCells w.heap.size 0 pkz.cells=wS at HPS HBS |-
   go_wp2
   refine bodyPost_ret (res_pk3 (B:=w.heap.size) (q:=pkz) rfl rfl (uh HPS)) rfl ?_
   exact (uh HPD) _ 1 (uh HP1) (by decide) (uh HBS)
 ·clear HH0
  rw[if_pos h0]at HPU
  have h1:(hm != 0)=true:=by simpa using h0
  go_upto_region 3 with fail
  iterate 7 go_step
  refine wpList_store_mid rfl 31 _ _ rfl w.heap.size 0 pkz.cells.toArray rfl rfl ((uh HP4).there _) packet_size (Pkv.ones' _) ?_
  simp only[Act.put]
  have HPS:=zh ((uh HP4).stored pkz)
  have HBS:Hid (Below w.heap.size w (w3.setCells w.heap.size 0 pkz.cells)):=setCells_below (uh HB3) (Nat.le_refl _)
  generalize w3.setCells w.heap.size 0 pkz.cells=wS at HPS HBS |-
  go_wp2
  refine bodyPost_ret (res_pk3 (B:=w.heap.size) (q:=pkz) rfl rfl (uh HPS)) rfl ?_
  exact (uh HPD) _ hm (uh HPU) h0 (uh HBS)
theorem pdec_nil (ao:Option Addr) (cap:Nat) (lim:Int) (w:World):Calls Tryz.prog 14 #[.slice ao 0 cap,.int .i64 lim] w (PDecPost lim [] w):=by
 have HPN:=zh (pk_new w pkz)
 have HBN:Hid (Below w.heap.size w (w.alloc (.cells pkz.cells.toArray 31))):=bal _ _
 have HPD:=zh (pdec_bad lim [] w)
 have hh3:hnum lim []=3:=by unfold hnum;rw[if_pos rfl]
 have HPU:Hid (pnum lim []=3):=by
  show _=_
  unfold pnum
  rw[hh3,if_pos (by decide)]
 have HHN:=zh (head_nil ao cap lim)
 unfold HeadPost at HHN
 rw[hh3]at HHN
 obtain⟨l,hl⟩:∃ l:List Int,l=[]:=⟨_,rfl⟩
 rw[<- hl]at HPD HPU HHN |-
 clear hh3 hl
 go_enter Tryz.func14,Tryz.ntmps14
 go_upto_region 1 with fail
 change Code.wp _ _ _ _ (w.alloc (.cells pkz.cells.toArray 31))
 generalize w.alloc (.cells pkz.cells.toArray 31)=w1 at HPN HBN |-
 have HG:=zh ((uh HHN) w1)
 have hlt1:=(uh HPN).lt
 clear HHN
 go_wp2_with fail
 refine (uh HG).mono ?_
 rintro e w2 ⟨q,a,m,rfl,hq,hb2⟩
 have HP2:=zh ((uh HPN).below hb2)
 have HB2:Hid (Below w.heap.size w w2):=(uh HBN).trans (hb2.mono (uh HBN).size)
 have hlt2:w.heap.size<w2.heap.size:=Nat.lt_of_lt_of_le hlt1 hb2.size
 clear HPN HBN HG hb2 hq
 dsimp only
 iterate 16 go_step
 refine wpList_value rfl (packet_alloc _ _ _ _ _ _) ?_
 simp only[sp]
 refine wpList_skip rfl (packet_store _ _ _ _ _ _ _ q _ rfl rfl) ?_
 simp only[Act.put]
 have HP4:=zh ((uh HP2).below (al (.cells q.cells.toArray 31)))
 have HB3:Hid (Below w.heap.size w (w2.alloc (.cells q.cells.toArray 31))):=(uh HB2).alloc (Nat.le_of_lt hlt2) _
 generalize w2.alloc (.cells q.cells.toArray 31)=wy at HP4 HB3 |-
 clear HP2 HB2
 go_upto_region 3 with fail
 iterate 7 go_step
 refine wpList_store_mid rfl 31 _ _ rfl w.heap.size 0 pkz.cells.toArray rfl rfl ((uh HP4).there _) packet_size (Pkv.ones' _) ?_
 simp only[Act.put]
 have HPS:=zh ((uh HP4).stored pkz)
 have HBS:Hid (Below w.heap.size w (wy.setCells w.heap.size 0 pkz.cells)):=setCells_below (uh HB3) (Nat.le_refl _)
 generalize wy.setCells w.heap.size 0 pkz.cells=wS at HPS HBS |-
 go_wp2
 refine bodyPost_ret (res_pk3 (B:=w.heap.size) (q:=pkz) rfl rfl (uh HPS)) rfl ?_
 exact (uh HPD) _ 3 (uh HPU) (by decide) (uh HBS)
theorem pdec_k (v:Value) (l:List Int) (lim:Int) (w:World) (h:Byt w v l) (hlim:lim<=65536) (HB:bok (l.getD 0 0)=true->BdAt (l.getD 0 0)):Calls Tryz.prog 14 #[v,.int .i64 lim] w (PDecPost lim l w):=by
 by_cases hl:l=[]
 ·subst hl
  obtain⟨ao,cap,rfl,_⟩:=h.form
  exact pdec_nil ao cap lim w
 ·obtain⟨b,off,cap,rfl,_⟩:=h.form1 (List.length_pos_iff.2 hl)
  exact pdec_some b off cap l lim w h hlim HB
theorem pnum_is (l:List Int):pnum 65536 l=dnum l:=by
 unfold pnum dnum
 by_cases h1:l=[]
 ·have:hnum 65536 l=3:=by unfold hnum;rw[if_pos h1]
  rw[this,if_pos (by decide),if_pos h1]
 ·rw[if_neg h1]
  have hn:hnum 65536 l=if bok (l.getD 0 0)=false then 1 else if (V.vget (l.drop 1)).2.2≠0 then (V.vget (l.drop 1)).2.2 else if (65536:Int)<((1+ghd (l.drop 1)+(gid (l.drop 1)).toNat:Nat):Int) then 2 else 0:=by unfold hnum;rw[if_neg h1]
  by_cases h2:bok (l.getD 0 0)=false
  ·rw[hn,if_pos h2,if_pos (by decide),if_pos h2]
  ·rw[hn,if_neg h2,if_neg h2]
   by_cases h3:(V.vget (l.drop 1)).2.2≠0
   ·have hm:(meas l).2.2=(V.vget (l.drop 1)).2.2:=by unfold meas;rw[if_pos h3]
    rw[if_pos h3,hm,if_pos h3,if_pos h3]
   ·rw[if_neg h3]
    by_cases h4:65536<1+ghd (l.drop 1)+(gid (l.drop 1)).toNat
    ·have hm:(meas l).2.2=2:=by unfold meas;rw[if_neg h3,if_pos h4]
     rw[hm,if_pos (show (65536:Int)<((1+ghd (l.drop 1)+(gid (l.drop 1)).toNat:Nat):Int) by omega)]
     rfl
    ·rw[if_neg (show ¬ (65536:Int)<((1+ghd (l.drop 1)+(gid (l.drop 1)).toNat:Nat):Int) by omega)]
     by_cases h5:l.length<1+ghd (l.drop 1)+(gid (l.drop 1)).toNat
     ·have hm:(meas l).2.2=3:=by unfold meas;rw[if_neg h3,if_neg h4,if_pos h5]
      rw[hm,if_pos h5]
      rfl
     ·have hm:(meas l).2.2=0:=by unfold meas;rw[if_neg h3,if_neg h4,if_neg h5]
      rw[hm,if_neg h5]
theorem scs_get (d:List Sb):∀ (i:Nat) (u:Sb),d[i]?=some u->∀ j,j<5->(scs d)[i*5+j]?=u.cells[j]?:=by
 induction d with
 | nil=>intro i u h;simp at h
 | cons v us ih =>
  intro i u h j hj
  cases i with
  | zero =>
   simp at h
   subst h
   unfold scs
   rw[List.flatMap_cons,Nat.zero_mul,Nat.zero_add,List.getElem?_append_left (by simp[Sb.cells];omega)]
  | succ i =>
   simp at h
   have:=ih i u h j hj
   unfold scs at *
   rw[List.flatMap_cons,List.getElem?_append_right (by simp[Sb.cells];omega),<- this]
   congr 1
   simp[Sb.cells]
   omega
theorem row_form {w:World} {B:Nat} {e:TypeId} {s:Nat} {v:Value} {n:Nat} {xs:List Value} (h:w.ownsRow B e s v n xs):∃ ao cap,v=.slice ao n cap/\(n<=cap/\cap<=maxLen)/\(n=0\/∃ b,ao=some ⟨b,0,none⟩/\∀ j,j<n*s->w.cell? ⟨b,j,none⟩=xs[j]?):=by
 have hl:=h.1
 rcases h.2 with⟨rfl,rfl⟩|⟨g,cap,cur,rfl,hB,hg,h1,h2,h3,h4⟩
 ·exact⟨none,0,rfl,⟨Nat.le_refl _,by simp⟩,.inl rfl⟩
 ·exact⟨_,cap,rfl,⟨h1,h2⟩,.inr ⟨g,rfl,fun j hj=>h.cellAt j hj⟩⟩
theorem sbs_of_owns {w:World} {B:Nat} {e:TypeId} {v:Value} {l:List Sb} (h:w.ownsRow B e 5 v l.length (scs l)):Sbs w v l:=by
 obtain⟨ao,cap,rfl,hc,h0|⟨b,rfl,hcell⟩⟩:=row_form h
 ·exact⟨ao,cap,rfl,hc,.inl (List.length_eq_zero_iff.1 h0)⟩
 ·refine⟨_,cap,rfl,hc,.inr ⟨b,0,rfl,fun k hk=>?_⟩⟩
  have hu:l[k]?=some (l.getD k sb0):=by rw[List.getD_eq_getElem?_getD,List.getElem?_eq_getElem hk];rfl
  have key:∀ j,j<5->w.cell? ⟨b,k*5+j,none⟩=(l.getD k sb0).cells[j]?:=fun j hj=>(hcell (k*5+j) (by omega)).trans (scs_get l k _ hu j hj)
  simp only[Nat.zero_add]
  exact⟨key 0 (by omega),key 1 (by omega),key 2 (by omega),key 3 (by omega),key 4 (by omega)⟩
theorem wls_of {w:World} {B:Nat} {v:Value} {ws:List Wv} {us:List Wl} (h:w.ownsRow B 90 5 v us.length (wcs ws)) (hw:Ws w B ws us) (hl:∀ u∈us,u.props.length<=32):Wls w v us:=by
 obtain⟨ao,cap,rfl,hc,h0|⟨b,rfl,hcell⟩⟩:=row_form h
 ·exact⟨ao,cap,rfl,hc,.inl (List.length_eq_zero_iff.1 h0)⟩
 ·refine⟨_,cap,rfl,hc,.inr ⟨b,0,rfl,fun k hk=>?_⟩⟩
  obtain⟨a,ha⟩:∃ a,ws[k]?=some a:=⟨_,List.getElem?_eq_getElem (by rw[hw.1];exact hk)⟩
  have hu:us[k]?=some (us.getD k wl0):=by rw[List.getD_eq_getElem?_getD,List.getElem?_eq_getElem hk];rfl
  obtain⟨e1,e2,e3,e4,e5⟩:=hw.2 k a _ ha hu
  have key:∀ j,j<5->w.cell? ⟨b,k*5+j,none⟩=a.cells[j]?:=fun j hj=>(hcell (k*5+j) (by omega)).trans (wcs_get ws k a ha j hj)
  have hm:us.getD k wl0∈us:=List.mem_of_getElem? hu
  rw[Nat.zero_add]
  refine⟨a.props.ao,a.props.n,a.props.cap,⟨?_,?_,?_,?_,key 4 (by omega)⟩,prp_of_owns e5,by have:=hl _ hm;omega⟩
  ·rw[<- e1];exact key 0 (by omega)
  ·rw[<- e2];exact key 1 (by omega)
  ·rw[<- e3];exact key 2 (by omega)
  ·rw[<- e4];exact key 3 (by omega)
theorem Mean.bel {w w':World} {B:Nat} {p:Pkv} {P:Pa} (h:Mean w B p P) (hb:Below w.heap.size w w'):Mean w' B p P :=
 ⟨h.sc,owns_below h.props hb,by
  obtain⟨ws,h1,h2,h3⟩:=h.wills
  exact⟨ws,owns_below h1 hb,h2,fun i a b ha hb'=>by
   obtain⟨k1,k2,k3,k4,k5⟩:=h3 i a b ha hb'
   exact⟨k1,k2,k3,k4,owns_below k5 hb⟩⟩,owns_below h.user hb,owns_below h.pass hb,owns_below h.subs hb,owns_below h.filters hb,owns_below h.codes hb⟩
theorem Mean.rpk {w:World} {B:Nat} {q:Pkv} {P:Pa} (h:Mean w B q P) (hl:Lts P):RPk w q P:=by
 obtain⟨ws,h1,h2⟩:=h.wills
 exact⟨h.sc,prp_of_owns h.props,wls_of h1 h2 hl.wp,txs_of_owns h.user,txs_of_owns h.pass,sbs_of_owns h.subs,txs_of_owns h.filters,nms_of_owns h.codes⟩
theorem Lts.small {P:Pa} (h:Lts P):Small P:=⟨by have:=h.props;omega,by have:=h.wills;omega,by have:=h.subs;omega⟩
def paz:Pa:=pa0 0 false 0 false
def dP (l:List Int):Pa:=match dbody l with
 | some r=>if dnum l=0 then r.1 else paz
 | none=>paz
def dN (l:List Int):Nat:=if dnum l=0 then (meas l).2.1 else 0
theorem mean_z (w:World) (B:Nat):Mean w B pkz paz:=⟨⟨rfl,rfl,rfl,rfl,rfl,rfl,rfl,rfl,rfl,rfl,rfl,rfl⟩,row0 _ _ _ _,wills0 _ _,row0 _ _ _ _,row0 _ _ _ _,row0 _ _ _ _,row0 _ _ _ _,row0 _ _ _ _⟩
theorem lts_z:Lts paz:=⟨by simp[paz,pa0],by simp[paz,pa0],by simp[paz,pa0],by simp[paz,pa0],by simp[paz,pa0],by simp[paz,pa0],by simp[paz,pa0],by simp[paz,pa0]⟩
theorem dP_lts (l:List Int):Lts (dP l):=by
 unfold dP
 cases h:dbody l with
 | none=>exact lts_z
 | some r =>
  show Lts (if dnum l=0 then r.1 else paz)
  split
  ·exact dbody_lts (P:=r.1) (l':=r.2) h
  ·exact lts_z
theorem dP_bad {l:List Int} (h:dnum l≠0):dP l=paz:=by
 unfold dP
 cases dbody l with
 | none=>rfl
 | some r=>exact if_neg h
theorem dP_good {l r:List Int} {P:Pa} (h:dnum l=0) (hd:dbody l=some (P,r)):dP l=P:=by
 unfold dP
 rw[hd]
 exact if_pos h
end Go.Proofs.YtmpijpjlbhfccaaGreatDoor.K
namespace Go.Proofs.YtmpijpjlbhfccaaGreatDoor
open Go.RowKit
set_option maxRecDepth 100000
theorem emp_eq {s:ByteArray} (h:emp s=true):s=es:=by
 have h1:s.toList=[]:=List.isEmpty_iff.1 h
 exact toList_inj (h1.trans (by decide +kernel))
theorem gbn_tx (s:ByteArray) (l:List Int) (h:s.size<=65535):gbn (tx s++l)=(s,((2+s.size:Nat):Int),0):=by
 have hn:=nb_tx s l
 have hf:full (tx s++l)=true:=by
  unfold full
  rw[hn,Bool.and_eq_true,decide_eq_true_eq,decide_eq_true_eq,List.length_append,tx_length]
  omega
 unfold gbn
 rw[if_pos hf,gbs_tx,hn]
theorem vget_put' (x:Int) (h0:0<=x) (h1:x<=268435455) (l:List Int):V.vget (V.put x++l)=(x,((V.put x).length:Int),0):=by
 rw[V.vget_put x h0 h1 l,V.put_length]
theorem be_nbs (k n:Int) (hk:k=1\/k=2\/k=4) (r:List Int):be k (nbs k n++r)=n:=by
 rcases hk with rfl|rfl|rfl
 ·unfold be nbs
  simp
 ·unfold be nbs
  simp
  omega
 ·unfold be nbs
  simp
  omega
theorem nbs_len (k n:Int) (hk:k=1\/k=2\/k=4):((nbs k n).length:Int)=k:=by
 rcases hk with rfl|rfl|rfl<;>unfold nbs<;>simp
theorem gval_back (id n:Int) (s t:ByteArray) (hm:may (id,n,s,t)=true) (r:List Int):gval (kd id) (pvb (id,n,s,t)++r)=(true,n,s,t,(pvb (id,n,s,t)).length):=by
 have hm0:=hm
 unfold may at hm
 rw[Bool.and_eq_true]at hm
 obtain⟨hf,ht⟩:=hm
 obtain⟨h0,h1,h2⟩:=fit_num hf
 have hx:mx id=(if kd id=1 then 1 else if kd id=2 then 65535 else if kd id=4 then 4294967295 else if kd id=5 then 268435455 else 0):=rfl
 unfold fit at hf
 simp only[Bool.and_eq_true]at hf
 have hfe:=hf.2
 clear hf
 have num:∀ k:Int,kd id=k->(k=1\/k=2\/k=4)->gval (kd id) (pvb (id,n,s,t)++r)=(true,n,s,t,(pvb (id,n,s,t)).length):=fun k h hk=>by
  rw[if_neg (by omega),if_neg (by omega),Bool.and_eq_true]at hfe
  obtain rfl:=emp_eq hfe.1
  obtain rfl:=emp_eq hfe.2
  rw[pvb_num id n _ _ k h hk,h]
  unfold gval
  rw[if_pos hk,be_nbs k n hk r]
  have hl:=nbs_len k n hk
  rw[decide_eq_true (by rw[List.length_append];omega),show k.toNat=(nbs k n).length from by omega]
 rcases kd_cases id with h|h|h|h|h|h|h|h
 ·unfold txo at ht;simp[h]at ht
 ·exact num 1 h (by omega)
 ·exact num 2 h (by omega)
 ·exact num 4 h (by omega)
 ·rw[if_neg (by omega),if_neg (by omega),Bool.and_eq_true]at hfe
  obtain rfl:=emp_eq hfe.1
  obtain rfl:=emp_eq hfe.2
  rw[if_neg (by omega),if_neg (by omega),if_neg (by omega),if_pos h]at hx
  rw[show pvb (id,n,es,es)=V.put n from by unfold pvb;simp[h],h]
  unfold gval
  rw[if_neg (by omega),if_pos rfl,vget_put' n h0 (by omega) r]
  simp
 ·rw[if_neg (by omega),if_pos (by omega)]at hfe
  obtain rfl:=emp_eq hfe
  rw[if_neg (by omega),if_neg (by omega),if_neg (by omega),if_neg (by omega)]at hx
  have hn0:n=0:=by omega
  subst hn0
  have hc:chk (sb s)=0:=by unfold txo at ht;simpa [h] using ht
  rw[show pvb (id,0,s,es)=tx s from by unfold pvb;simp[h],h]
  unfold gval
  rw[if_neg (by omega),if_neg (by omega),if_pos rfl,gt_tx s r hc]
  simp only[decide_true,Int.toNat_natCast,tx_length]
 ·rw[if_neg (by omega),if_pos (by omega)]at hfe
  obtain rfl:=emp_eq hfe
  rw[if_neg (by omega),if_neg (by omega),if_neg (by omega),if_neg (by omega)]at hx
  have hn0:n=0:=by omega
  subst hn0
  have hc:s.size<=65535:=by unfold txo at ht;simpa [h] using ht
  rw[show pvb (id,0,s,es)=tx s from by unfold pvb;simp[h],h]
  unfold gval
  rw[if_neg (by omega),if_neg (by omega),if_neg (by omega),if_pos rfl,gbn_tx s r hc]
  simp only[decide_true,Int.toNat_natCast,tx_length]
 ·rw[if_neg (by omega),if_neg (by omega),if_neg (by omega),if_neg (by omega)]at hx
  have hn0:n=0:=by omega
  subst hn0
  have hc:chk (sb s)=0/\chk (sb t)=0:=by unfold txo at ht;simpa [h] using ht
  rw[show pvb (id,0,s,t)=tx s++tx t from by unfold pvb;simp[h],h,List.append_assoc]
  have e1:=gt_tx s (tx t++r) hc.1
  have e2:gt (List.drop (2+s.size) (tx s++(tx t++r)))=(t,((2+t.size:Nat):Int),0):=by
   rw[show 2+s.size=(tx s).length from (tx_length s).symm,List.drop_left]
   exact gt_tx t r hc.2
  unfold gval
  rw[if_neg (by omega),if_neg (by omega),if_neg (by omega),if_neg (by omega),if_pos rfl]
  simp only[e1,Int.toNat_natCast,e2,decide_true,Bool.and_true,List.length_append,tx_length]
def okp (p:Pr):Prop:=may p=true/\1<=p.1/\p.1<=42
theorem one_back (p:Pr) (h:okp p) (r:List Int):gok (pb p++r)=true/\gpr (pb p++r)=p/\gsz (pb p++r)=(pb p).length:=by
 obtain⟨id,n,s,t⟩:=p
 obtain⟨hm,h1,h2⟩:=h
 simp only at h1 h2
 have hv:V.vget (pb (id,n,s,t)++r)=(id,((V.put id).length:Int),0):=by
  unfold pb
  rw[List.append_assoc]
  exact vget_put' id (by omega) (by omega) _
 have hd:(pb (id,n,s,t)++r).drop (V.put id).length=pvb (id,n,s,t)++r:=by
  unfold pb
  rw[List.append_assoc]
  exact List.drop_left
 have hg:grs (pb (id,n,s,t)++r)=(true,n,s,t,(pvb (id,n,s,t)).length):=by
  unfold grs gid ghd
  rw[hv]
  simp only[Int.toNat_natCast]
  rw[hd]
  exact gval_back id n s t hm r
 unfold gok gpr gsz gid ghd
 rw[hg,hv]
 refine⟨rfl,rfl,?_⟩
 simp only[Int.toNat_natCast]
 unfold pb
 rw[List.length_append]
theorem parse_back (l:List Pr) (h:∀ p∈l,okp p) (hr:Rng (body l)):parse (body l)=some l:=by
 induction l with
 | nil=>exact parse_nil
 | cons p l ih =>
  have hb:body (p::l)=pb p++body l:=rfl
  rw[hb]at hr |-
  obtain⟨a,b,c⟩:=one_back p (h p (by simp)) (body l)
  have hl:=(pb_le p (h p (by simp)).1).1
  have hd:(pb p++body l).drop (pb p).length=body l:=List.drop_left
  have hr2:Rng (body l):=by have:=hr.drop (pb p).length;rw[hd]at this;exact this
  rw[parse_yes _ (by intro e;have:=congrArg List.length e;rw[List.length_append,List.length_nil]at this;omega) hr a,b,c,hd,ih (fun q hq=>h q (by simp[hq])) hr2]
  rfl
theorem okp_of_chk {place:Int} {l:List Pr} (h:okTo place l l.length):∀ p∈l,okp p:=fun p hp=>by
 obtain⟨i,hi,rfl⟩:=List.mem_iff_getElem.1 hp
 have e:at0 l i=l[i]:=by unfold at0;rw[List.getD_eq_getElem?_getD,List.getElem?_eq_getElem hi];rfl
 obtain⟨a,b⟩:=okAt_may (h i hi)
 have:=id_range _ _ b
 rw[e]at a this
 exact⟨a,this⟩
theorem body_bound (place:Int) (l:List Pr) (h:okTo place l l.length) (hl:l.length<=32):(body l).length<=268435455:=by
 have:=body_le l place l.length (Nat.le_refl _) h
 rw[List.take_length]at this
 omega
theorem back_pgt (place q:Int) (l:List Pr) (t:List Int) (h:okTo place l l.length) (hl:l.length<=32) (hr:Rng (pbs l)):pgt q (pbs l++t)=chkP q l/\(chkP q l=0->plist q (pbs l++t)=l/\psz q (pbs l++t)=((pbs l).length:Int)):=by
 have hb:=body_bound place l h hl
 have hv:V.vget (pbs l++t)=(((body l).length:Int),((V.put ((body l).length:Int)).length:Int),0):=by
  unfold pbs
  rw[List.append_assoc]
  exact vget_put' _ (by omega) (by omega) _
 have hd:(pbs l++t).drop (V.put ((body l).length:Int)).length=body l++t:=by
  unfold pbs
  rw[List.append_assoc]
  exact List.drop_left
 have hrb:Rng (body l):=by
  have:=hr.drop (V.put ((body l).length:Int)).length
  unfold pbs at this
  rw[List.drop_left]at this
  exact this
 have e1:gid (pbs l++t)=((body l).length:Int):=by unfold gid;rw[hv]
 have e2:ghd (pbs l++t)=(V.put ((body l).length:Int)).length:=by unfold ghd;rw[hv];simp
 have e3:pbd (pbs l++t)=body l:=by
  unfold pbd
  rw[e1,e2,hd,Int.toNat_natCast,List.take_left]
 have hp:=parse_back l (okp_of_chk h) hrb
 have hg:pgt q (pbs l++t)=chkP q l:=by
  unfold pgt
  rw[hv,if_neg (by simp),if_neg (by rw[e1,e2,Int.toNat_natCast];unfold pbs;rw[List.length_append,List.length_append];omega),e3]
  exact rdn_some q _ l hp
 refine⟨hg,fun h0=>?_⟩
 unfold plist psz
 rw[if_pos (by rw[hg];exact h0),if_pos (by rw[hg];exact h0),e3,hp,e1,e2,Int.toNat_natCast]
 refine⟨rfl,?_⟩
 unfold pbs
 rw[List.length_append]
 omega
end Go.Proofs.YtmpijpjlbhfccaaGreatDoor
namespace Go.Proofs.YtmpijpjlbhfccaaGreatDoor.K.B
open Go.RowKit
open Go.Proofs.YtmpijpjlbhfccaaGreatDoor.K
set_option maxRecDepth 100000
def RT {α:Type} (f:List Int->Option (α×List Int)) (ys:List Int) (x:α):Prop:=∀ r,f (ys++r)=some (x,r)
def ET {α:Type} (f:List Int->Option (α×List Int)) (ys:List Int) (x:α):Prop:=f ys=some (x,[])
theorem RT.bind {α β:Type} {f:List Int->Option (α×List Int)} {g:α->List Int->Option (β×List Int)} {ys zs:List Int} {x:α} {y:β} (h:RT f ys x) (k:RT (g x) zs y):RT (bindR f g) (ys++zs) y:=fun r=>by
 unfold bindR
 rw[List.append_assoc,h]
 exact k r
theorem RT.bind0 {α β:Type} {f:List Int->Option (α×List Int)} {g:α->List Int->Option (β×List Int)} {zs:List Int} {x:α} {y:β} (h:RT f [] x) (k:RT (g x) zs y):RT (bindR f g) zs y:=RT.bind (ys:=[]) h k
theorem RT.last {α β:Type} {f:List Int->Option (α×List Int)} {ys:List Int} {x:α} {y:β} (h:RT f ys x) (φ:α->β) (e:φ x=y):RT (bindR f fun a=>pureR (φ a)) ys y:=fun r=>by
 unfold bindR
 rw[h,<- e]
 rfl
theorem RT.et {α:Type} {f:List Int->Option (α×List Int)} {ys:List Int} {x:α} (h:RT f ys x):ET f ys x:=by
 have:=h []
 rw[List.append_nil]at this
 exact this
theorem ET.last {α β:Type} {f:List Int->Option (α×List Int)} {ys:List Int} {x:α} {y:β} (h:ET f ys x) (φ:α->β) (e:φ x=y):ET (bindR f fun a=>pureR (φ a)) ys y:=by
 unfold ET bindR at *
 rw[h,<- e]
 rfl
theorem rt_must {b:Bool} (hb:b=true):RT (mustR b) [] ():=fun r=>by
 unfold mustR
 rw[if_pos hb]
 rfl
theorem rt_one (n:Int):RT one? [n] n:=fun _=>rfl
theorem rt_two {k:Int} (h:in16 k=true):RT two? (b2 k) k:=fun r=>by
 unfold in16 at h
 simp only[Bool.and_eq_true,decide_eq_true_eq]at h
 show some (k/256 % 256*256+k % 256,r)=some (k,r)
 have:k/256 % 256*256+k % 256=k:=by omega
 rw[this]
theorem drop_tx (s:ByteArray) (r:List Int):(tx s++r).drop (((2+s.size:Nat):Int).toNat)=r:=by
 have:(((2+s.size:Nat):Int).toNat)=(tx s).length:=by rw[tx_length];rfl
 rw[this,List.drop_left]
theorem rt_text {s:ByteArray} (h:okT s=true):RT text? (tx s) s:=fun r=>by
 have e:=gt_tx s r (of_decide_eq_true h)
 unfold text?
 rw[e]
 show (if (0:Int)=0 then some (s,(tx s++r).drop (((2+s.size:Nat):Int).toNat)) else none)=_
 rw[if_pos rfl,drop_tx]
theorem rt_bin {s:ByteArray} (h:okB s=true):RT bin? (tx s) s:=fun r=>by
 have e:=gbn_tx s r (of_decide_eq_true h)
 unfold bin?
 rw[e]
 show (if (0:Int)=0 then some (s,(tx s++r).drop (((2+s.size:Nat):Int).toNat)) else none)=_
 rw[if_pos rfl,drop_tx]
theorem okP_inv {place:Int} {l:List Pr} (h:okP place l=true):okTo place l l.length/\l.length<=32:=by
 have h0:=of_decide_eq_true h
 unfold chkP at h0
 by_cases h1:∀ i,i<l.length->okAt place l i=true
 ·rw[if_pos h1]at h0
  by_cases h2:l.length<=32
  ·exact⟨h1,h2⟩
  ·rw[if_neg h2]at h0;cases h0
 ·rw[if_neg h1]at h0;cases h0
theorem rt_props {place:Int} {l:List Pr} (h:okP place l=true) (hr:Rng (pbs l)):RT (props? place) (pbs l) l:=fun r=>by
 obtain⟨h1,h2⟩:=okP_inv h
 have h0:=of_decide_eq_true h
 obtain⟨e1,e2⟩:=back_pgt place place l r h1 h2 hr
 obtain⟨e2,e3⟩:=e2 h0
 unfold props?
 rw[if_pos (e1.trans h0),e2,e3]
 have:(((pbs l).length:Nat):Int).toNat=(pbs l).length:=rfl
 rw[this,List.drop_left]
theorem rng_l {a b:List Int} (h:Rng (a++b)):Rng a:=fun j=>by
 by_cases hj:j<a.length
 ·have:=h j
  rw[List.getD_eq_getElem?_getD,List.getElem?_append_left hj,<- List.getD_eq_getElem?_getD]at this
  exact this
 ·rw[List.getD_eq_getElem?_getD,List.getElem?_eq_none (by omega)];simp
theorem rng_r {a b:List Int} (h:Rng (a++b)):Rng b:=fun j=>by
 have:=h (a.length+j)
 rw[List.getD_eq_getElem?_getD,List.getElem?_append_right (by omega),Nat.add_sub_cancel_left,<- List.getD_eq_getElem?_getD]at this
 exact this
theorem add_inv {st:Option (List Int)} {c:Bool} {ys l:List Int} (h:st.bind (sAdd c ys)=some l):∃ t,st=some t/\c=true/\l=t++ys:=by
 cases st with
 | none=>cases h
 | some t =>
  cases c with
  | false=>cases h
  | true=>cases h;exact⟨t,rfl,rfl,rfl⟩
theorem must_inv {st:Option (List Int)} {c:Bool} {l:List Int} (h:st.bind (sMust c)=some l):st=some l/\c=true:=by
 cases st with
 | none=>cases h
 | some t =>
  cases c with
  | false=>cases h
  | true=>cases h;exact⟨rfl,rfl⟩
theorem emp_inv {P:Pa} (h:empA P=true):EmpA P:=of_decide_eq_true h
theorem no_text {s:ByteArray} (h:s.size=0):s=⟨#[]⟩:=by
 obtain⟨d⟩:=s
 have:d.size=0:=h
 rw[Array.eq_empty_of_size_eq_zero this]
theorem no_list {α:Type} {l:List α} (h:l.length=0):l=[]:=List.length_eq_zero_iff.1 h
theorem pk_et {Q P:Pa} {l:List Int} (h:ET (body? Q) l P):packet? Q l=some (P,[]):=by
 unfold packet? bindR
 rw[h]
 rfl
end Go.Proofs.YtmpijpjlbhfccaaGreatDoor.K.B
namespace Go.Proofs.YtmpijpjlbhfccaaGreatDoor.K.B
open Go.RowKit
open Go.Proofs.YtmpijpjlbhfccaaGreatDoor.K
set_option maxRecDepth 100000
theorem cfl0_back (nu np:Nat) (c:Bool) (hu:nu<=1) (hp:np<=1):(0<=cfl0 nu np c/\cfl0 nu np c<256)/\cfok (cfl0 nu np c)=true/\btest (cfl0 nu np c) 128=decide (0<nu)/\btest (cfl0 nu np c) 64=decide (0<np)/\btest (cfl0 nu np c) 2=c/\btest (cfl0 nu np c) 4=false:=by
 have h1:nu=0\/nu=1:=by omega
 have h2:np=0\/np=1:=by omega
 rcases h1 with rfl|rfl<;>rcases h2 with rfl|rfl<;>cases c<;>decide +kernel
theorem cfl1_back (nu np:Nat) (c:Bool) (hu:nu<=1) (hp:np<=1) (u:Wl) (hq:mq u.qos=true):(0<=cstepA (cfl0 nu np c) u/\cstepA (cfl0 nu np c) u<256)/\cfok (cstepA (cfl0 nu np c) u)=true/\btest (cstepA (cfl0 nu np c) u) 128=decide (0<nu)/\btest (cstepA (cfl0 nu np c) u) 64=decide (0<np)/\btest (cstepA (cfl0 nu np c) u) 2=c/\btest (cstepA (cfl0 nu np c) u) 4=true/\cstepA (cfl0 nu np c) u/8 % 4=u.qos/\btest (cstepA (cfl0 nu np c) u) 32=u.retain:=by
 have h1:nu=0\/nu=1:=by omega
 have h2:np=0\/np=1:=by omega
 obtain⟨t,y,q,r,ps⟩:=u
 unfold mq at hq
 simp only[Bool.and_eq_true,decide_eq_true_eq]at hq
 have h3:q=0\/q=1\/q=2:=by omega
 unfold cstepA
 dsimp only
 rcases h1 with rfl|rfl<;>rcases h2 with rfl|rfl<;>rcases h3 with rfl|rfl|rfl<;>cases c<;>cases r<;>decide +kernel
theorem will_back {x:Int} {u:Wl} {t l:List Int} (hx:btest x 4=true) (h:sEach sWill [u] t=some l) (hr:Rng l):∃ ys,l=t++ys/\RT (will? x) ys (some (u.props,u.topic,u.payload)):=by
 have k:∀ z:Option (List Int),z.bind (sEach sWill [])=z:=fun z=>by cases z<;>rfl
 have h1:sWill u t=some l:=by
  have:=h
  unfold sEach at this
  rw[k]at this
  exact this
 unfold sWill at h1
 obtain⟨t1,h2,hb,rfl⟩:=add_inv h1
 obtain⟨t2,h3,ht,rfl⟩:=add_inv h2
 obtain⟨_,e,hp,rfl⟩:=add_inv (st:=some t) h3
 cases e
 have hpr:=rt_props hp (rng_r (rng_l (rng_l hr)))
 refine⟨pbs u.props++(tx u.topic++tx u.payload),by simp only[List.append_assoc],?_⟩
 unfold will?
 rw[if_pos hx]
 exact RT.bind hpr (RT.bind (rt_text ht) ((rt_bin hb).last _ rfl))
theorem each_one {α:Type} {f:α->List Int->Option (List Int)} {a:α} {t l:List Int} (h:sEach f [a] t=some l):f a t=some l:=by
 have k:∀ z:Option (List Int),z.bind (sEach f [])=z:=fun z=>by cases z<;>rfl
 have:=h
 unfold sEach at this
 rw[k]at this
 exact this
theorem user_back {x:Int} {s:ByteArray} {t l:List Int} (hx:btest x 128=true) (h:sEach sTx [s] t=some l):∃ ys,l=t++ys/\RT (user? x) ys (some s):=by
 obtain⟨_,e,hc,rfl⟩:=add_inv (st:=some t) (each_one h)
 cases e
 refine⟨_,rfl,?_⟩
 unfold user?
 rw[if_pos hx]
 exact (rt_text hc).last _ rfl
theorem pass_back {x:Int} {s:ByteArray} {t l:List Int} (hx:btest x 64=true) (h:sEach sPass [s] t=some l):∃ ys,l=t++ys/\RT (pass? x) ys (some s):=by
 obtain⟨_,e,hc,rfl⟩:=add_inv (st:=some t) (each_one h)
 cases e
 refine⟨_,rfl,?_⟩
 unfold pass?
 rw[if_pos hx]
 exact (rt_bin hc).last _ rfl
theorem short_list {α:Type} {l:List α} (h:l.length<=1):l=[]\/∃ a,l=[a]:=by
 match l,h with
 | [],_=>exact .inl rfl
 | [a],_=>exact .inr ⟨a,rfl⟩
theorem ouser {x:Int} {us:List ByteArray} {t l:List Int} (hl:us.length<=1) (hx:btest x 128=decide (0<us.length)) (h:sEach sTx us t=some l):∃ ys o,l=t++ys/\RT (user? x) ys o/\o.toList=us:=by
 rcases short_list hl with rfl|⟨a,rfl⟩
 ·cases h
  refine⟨[],none,by rw[List.append_nil],?_,rfl⟩
  unfold user?
  rw[if_neg (by rw[hx];decide)]
  exact fun r=>rfl
 ·obtain⟨ys,e,k⟩:=user_back (x:=x) (by rw[hx];rfl) h
  exact⟨ys,_,e,k,rfl⟩
theorem opass {x:Int} {us:List ByteArray} {t l:List Int} (hl:us.length<=1) (hx:btest x 64=decide (0<us.length)) (h:sEach sPass us t=some l):∃ ys o,l=t++ys/\RT (pass? x) ys o/\o.toList=us:=by
 rcases short_list hl with rfl|⟨a,rfl⟩
 ·cases h
  refine⟨[],none,by rw[List.append_nil],?_,rfl⟩
  unfold pass?
  rw[if_neg (by rw[hx];decide)]
  exact fun r=>rfl
 ·obtain⟨ys,e,k⟩:=pass_back (x:=x) (by rw[hx];rfl) h
  exact⟨ys,_,e,k,rfl⟩
theorem owill {x:Int} {ws:List Wl} {t l:List Int} (hl:ws.length<=1) (hx:btest x 4=decide (0<ws.length)) (hq:∀ u∈ws,x/8 % 4=u.qos/\btest x 32=u.retain) (h:sEach sWill ws t=some l) (hr:Rng l):∃ ys o,l=t++ys/\RT (will? x) ys o/\wlOf x o=ws:=by
 rcases short_list hl with rfl|⟨u,rfl⟩
 ·cases h
  refine⟨[],none,by rw[List.append_nil],?_,rfl⟩
  unfold will?
  rw[if_neg (by rw[hx];decide)]
  exact fun r=>rfl
 ·obtain⟨ys,e,k⟩:=will_back (x:=x) (by rw[hx];rfl) h hr
  refine⟨ys,_,e,k,?_⟩
  obtain⟨h1,h2⟩:=hq u (List.mem_singleton.2 rfl)
  unfold wlOf
  dsimp only
  rw[h1,h2]
theorem cfA_back {P:Pa} (h:cokA P=true):P.wills.length<=1/\P.user.length<=1/\P.pass.length<=1/\(0<=cflA P/\cflA P<256)/\cfok (cflA P)=true/\btest (cflA P) 128=decide (0<P.user.length)/\btest (cflA P) 64=decide (0<P.pass.length)/\btest (cflA P) 2=P.clean/\btest (cflA P) 4=decide (0<P.wills.length)/\∀ u∈P.wills,cflA P/8 % 4=u.qos/\btest (cflA P) 32=u.retain:=by
 unfold cokA cok0 at h
 simp only[Bool.and_eq_true,decide_eq_true_eq]at h
 obtain⟨⟨⟨hw,hu⟩,hp⟩,hq⟩:=h
 refine⟨hw,hu,hp,?_⟩
 unfold cflA
 rcases short_list hw with e|⟨u,e⟩
 ·rw[e]
  obtain⟨h1,h2,h3,h4,h5,h6⟩:=cfl0_back P.user.length P.pass.length P.clean hu hp
  exact⟨h1,h2,h3,h4,h5,h6,fun u hu=>by cases hu⟩
 ·rw[e]at hq |-
  have hq1:mq u.qos=true:=by simpa using hq
  obtain⟨h1,h2,h3,h4,h5,h6,h7,h8⟩:=cfl1_back P.user.length P.pass.length P.clean hu hp u hq1
  refine⟨h1,h2,h3,h4,h5,h6,fun v hv=>?_⟩
  obtain rfl:=List.mem_singleton.1 hv
  exact⟨h7,h8⟩
theorem is_mqtt:isMQTT mqtt=true:=by decide +kernel
theorem back_1 {P:Pa} {l:List Int} (hk:P.kind=1) (h:eb P=some l) (hr:Rng l):ET (body? (pa0 1 false 0 false)) l P:=by
 unfold eb at h
 rw[if_pos hk]at h
 obtain⟨h1,he⟩:=must_inv h
 unfold sConn at h1
 cases h2:sCon0 P.kind (cflA P) P.keep (cokA P) P.props P.client [] with
 | none=>rw[h2]at h1;cases h1
 | some t0 =>
  rw[h2]at h1
  cases h3:sEach sWill P.wills t0 with
  | none =>
   have:(((some t0).bind (sEach sWill P.wills)).bind (sEach sTx P.user)).bind (sEach sPass P.pass)=none:=by
    show ((sEach sWill P.wills t0).bind (sEach sTx P.user)).bind (sEach sPass P.pass)=none
    rw[h3];rfl
   rw[this]at h1;cases h1
  | some t1 =>
   have h4:((sEach sTx P.user t1)).bind (sEach sPass P.pass)=some l:=by
    have:(((some t0).bind (sEach sWill P.wills)).bind (sEach sTx P.user)).bind (sEach sPass P.pass)=(sEach sTx P.user t1).bind (sEach sPass P.pass):=by
     show ((sEach sWill P.wills t0).bind (sEach sTx P.user)).bind (sEach sPass P.pass)=_
     rw[h3];rfl
    rw[this]at h1;exact h1
   cases h5:sEach sTx P.user t1 with
   | none=>rw[h5]at h4;cases h4
   | some t2 =>
    rw[h5]at h4
    have h6:sEach sPass P.pass t2=some l:=h4
    unfold sCon0 at h2
    obtain⟨u1,g1,hct,rfl⟩:=add_inv h2
    obtain⟨u2,g2,hp,rfl⟩:=add_inv g1
    obtain⟨u3,g3,hkp,rfl⟩:=add_inv g2
    obtain⟨u4,g4,hfl,rfl⟩:=add_inv g3
    obtain⟨u5,g5,-,rfl⟩:=add_inv g4
    obtain⟨u6,g6,hmq,rfl⟩:=add_inv g5
    have hok:cokA P=true/\u6=[]:=by
     unfold sMust at g6
     cases hq:cokA P with
     | false=>rw[hq]at g6;cases g6
     | true=>rw[hq]at g6;cases g6;exact⟨rfl,rfl⟩
    obtain⟨hok,rfl⟩:=hok
    obtain⟨hw1,hu1,hp1,hx,hcf,b128,b64,b2',b4,hwq⟩:=cfA_back hok
    have hfl1:cflA P % 256=cflA P:=by omega
    rw[hk]at hp
    obtain⟨yp,op,rfl,rp,ep⟩:=opass (x:=cflA P) hp1 b64 h6
    obtain⟨yu,ou,rfl,ru,eu⟩:=ouser (x:=cflA P) hu1 b128 h5
    obtain⟨yw,ow,rfl,rw',ew⟩:=owill (x:=cflA P) hw1 b4 hwq h3 (rng_l (rng_l hr))
    have hrb:=rng_l (rng_l (rng_l hr))
    have hpr:=rt_props hp (rng_r (rng_l hrb))
    have hcon:RT connect? ((((([]++tx mqtt++[5 % 256]++[cflA P % 256]++b2 P.keep++pbs P.props++tx P.client)++yw)++yu)++yp)) ⟨cflA P,P.keep,P.props,P.client,ow,ou,op⟩:=by
     rw[hfl1]
     have e0:(([]++tx mqtt++[5 % 256]++[cflA P]++b2 P.keep++pbs P.props++tx P.client)++yw)++yu++yp=tx mqtt++([5]++([cflA P]++(b2 P.keep++(pbs P.props++(tx P.client++(yw++(yu++yp))))))):=by
      simp only[List.append_assoc,List.nil_append]
      rfl
     rw[e0]
     unfold connect?
     refine RT.bind (rt_text hmq) (RT.bind0 (rt_must is_mqtt) (RT.bind (rt_one 5) (RT.bind0 (rt_must rfl) (RT.bind (ys:=[cflA P]) ?_ (RT.bind (rt_two hkp) (RT.bind hpr (RT.bind (rt_text hct) (RT.bind rw' (RT.bind ru (rp.last _ rfl))))))))))
     unfold flags?
     exact RT.bind (ys:=[cflA P]) (zs:=[]) (rt_one _) (RT.bind0 (rt_must hcf) (fun r=>rfl))
    have e:body? (pa0 1 false 0 false)=bindR connect? fun n=>pureR (ofCn (pa0 1 false 0 false) n):=rfl
    rw[e]
    refine hcon.et.last _ ?_
    unfold ofCn
    dsimp only
    rw[b2',ew,eu,ep]
    obtain⟨⟨e1,e2,e3,e4⟩,⟨e5,e6,e7,e8⟩,⟨e9,e10,e11⟩,e12,e13,e14,e15,e16,e17,e18⟩:=emp_inv he
    obtain⟨kind,dup,qos,retain,topic,id,payload,props,client,clean,keep,wills,user,pass,code,session,subs,filters,codes⟩:=P
    obtain rfl:dup=false:=e1
    obtain rfl:qos=0:=e5
    obtain rfl:retain=false:=e2
    obtain rfl:topic=⟨#[]⟩:=no_text e9
    obtain rfl:id=0:=e6
    obtain rfl:payload=⟨#[]⟩:=no_text e10
    obtain rfl:code=0:=e8
    obtain rfl:session=false:=e4
    obtain rfl:subs=[]:=no_list e16
    obtain rfl:filters=[]:=no_list e17
    obtain rfl:codes=[]:=no_list e18
    obtain rfl:kind=1:=hk
    rfl
theorem first_pub (d r:Bool) (q:Int) (h:pok d q=true):fb 3 (pfl d q r) / 16=3/\btest (fb 3 (pfl d q r)) 8=d/\fb 3 (pfl d q r) / 2 % 4=q/\btest (fb 3 (pfl d q r)) 1=r/\bok (fb 3 (pfl d q r))=true/\(0<=fb 3 (pfl d q r)/\fb 3 (pfl d q r)<=255):=by
 have hq:q=0\/q=1\/q=2:=by
  unfold pok mq at h
  simp only[Bool.and_eq_true,decide_eq_true_eq]at h
  omega
 rcases hq with rfl|rfl|rfl<;>cases d<;>cases r<;>revert h<;>decide +kernel
theorem first_oth (k:Int) (h1:1<=k) (h2:k<=15) (h3:k≠3):∀ f,f=(if k=6\/k=8\/k=10 then (2:Int) else 0)->fb k f/16=k/\bok (fb k f)=true/\(0<=fb k f/\fb k f<=255):=by
 rintro f rfl
 have hk:k=1\/k=2\/k=4\/k=5\/k=6\/k=7\/k=8\/k=9\/k=10\/k=11\/k=12\/k=13\/k=14\/k=15:=by omega
 rcases hk with rfl|rfl|rfl|rfl|rfl|rfl|rfl|rfl|rfl|rfl|rfl|rfl|rfl|rfl<;>decide +kernel
theorem meas_back (b:Int) (l r:List Int) (hl:1+(V.put (l.length:Int)).length+l.length<=65536):meas (([b]++V.put (l.length:Int))++l++r)=(1+(V.put (l.length:Int)).length,1+(V.put (l.length:Int)).length+l.length,0):=by
 have e:(([b]++V.put (l.length:Int))++l++r).drop 1=V.put (l.length:Int)++(l++r):=by
  rw[List.append_assoc,List.append_assoc]
  rfl
 have hv:=vget_put' (l.length:Int) (by omega) (by omega) (l++r)
 have e1:gid (V.put (l.length:Int)++(l++r))=(l.length:Int):=by unfold gid;rw[hv]
 have e2:ghd (V.put (l.length:Int)++(l++r))=(V.put (l.length:Int)).length:=by unfold ghd;rw[hv];rfl
 unfold meas
 rw[e,hv,e1,e2]
 have e3:((l.length:Nat):Int).toNat=l.length:=rfl
 rw[e3]
 rw[if_neg (by simp),if_neg (by omega),if_neg (by
  rw[List.length_append,List.length_append,List.length_append]
  simp only[List.length_cons,List.length_nil]
  omega)]
end Go.Proofs.YtmpijpjlbhfccaaGreatDoor.K.B
