/- Proved here: helpers, one text behind the other. -/
import Derived.Laws.AppendOwn
import Derived.Deep.Cut
import Derived.Deep.CutBlock
import Derived.Test.YtpheelbbpiieiaaGreatDoorZC6
import Derived.Test.YtpheelbbpiieiaaGreatDoorZC21
import Derived.Test.YtpheelbbpiieiaaGreatDoorZC17
set_option maxHeartbeats 20000000
namespace Go.Proofs.YtpheelbbpiieiaaGreatDoor.K
open Go.RowKit
set_option maxRecDepth 100000
theorem and2 (x:Int) (h0:0<=x) (h1:x<=255):(bits .and .i64 x 2 != 0)=btest x 2:=byte_cases (P:=fun x=>(bits .and .i64 x 2 != 0)=btest x 2) (by decide +kernel) x h0 h1
theorem and32 (x:Int) (h0:0<=x) (h1:x<=255):(bits .and .i64 x 32 != 0)=btest x 32:=byte_cases (P:=fun x=>(bits .and .i64 x 32 != 0)=btest x 32) (by decide +kernel) x h0 h1
theorem and64 (x:Int) (h0:0<=x) (h1:x<=255):(bits .and .i64 x 64 != 0)=btest x 64:=byte_cases (P:=fun x=>(bits .and .i64 x 64 != 0)=btest x 64) (by decide +kernel) x h0 h1
theorem and128 (x:Int) (h0:0<=x) (h1:x<=255):(bits .and .i64 x 128 != 0)=btest x 128:=byte_cases (P:=fun x=>(bits .and .i64 x 128 != 0)=btest x 128) (by decide +kernel) x h0 h1
theorem shq (x:Int) (h0:0<=x) (h1:x<=255):bits .and .i64 (x / 8) 3=x / 8 % 4:=byte_cases (P:=fun x=>bits .and .i64 (x / 8) 3=x / 8 % 4) (by decide +kernel) x h0 h1
theorem make_str (w:World):(Instr.makeSlice 25 (.int .i64 1) (.int .i64 1)).run Tryz.prog w=.ok (.slice (some ⟨w.heap.size,0,none⟩) 1 1) (w.alloc (.cells #[.string ⟨#[]⟩] 9)):=by kernel_rfl
def cws (x:Int):List Wv:=if btest x 4 then [⟨⟨#[]⟩,⟨#[]⟩,x / 8 % 4,btest x 32,⟨none,0,0⟩⟩] else []
def cfok (x:Int):Bool:=cok (btest x 128).toNat (btest x 64).toNat (cws x) && (cfl (btest x 128).toNat (btest x 64).toNat (btest x 2) (cws x) == x)
def flags?:List Int->Option (Int×List Int):=bindR one? fun x=>bindR (mustR (cfok x)) fun _=>pureR x
def isW (V:Nat) (b:Bool):Sl:=if b then ⟨some ⟨V,0,none⟩,1,1⟩ else ⟨none,0,0⟩
theorem al {w:World} (ob:Obj):Below w.heap.size w (w.alloc ob):=bal _ _
def Rm (B R:Nat) (w:World) (b:Bool) (V:Nat) (ob:Obj):Prop:=B<=V/\V≠R/\(b=true->V < w.heap.size/\w.heap[V]?=some ob)
theorem Rm.bx {B R:Nat} {may:Nat->Prop} {w w':World} {b:Bool} {V:Nat} {ob:Obj} (h:Rm B R w b V ob) (hx:BX R may w w'):Rm B R w' b V ob :=
 ⟨h.1,h.2.1,fun hb=>⟨Nat.lt_of_lt_of_le (h.2.2 hb).1 hx.size,(hx.block V (h.2.2 hb).1 h.2.1).trans (h.2.2 hb).2⟩⟩
theorem Rm.below {B R:Nat} {w w':World} {b:Bool} {V:Nat} {ob:Obj} (h:Rm B R w b V ob) (hx:Below w.heap.size w w'):Rm B R w' b V ob :=
 ⟨h.1,h.2.1,fun hb=>⟨Nat.lt_of_lt_of_le (h.2.2 hb).1 hx.size,(hx.block V (h.2.2 hb).1).trans (h.2.2 hb).2⟩⟩
theorem Rm.new {B R:Nat} {w:World} (ob:Obj) (hB:B<=w.heap.size) (hR:R < w.heap.size) (b:Bool) (j:Nat) (u:Value):Rm B R ((w.setCell ⟨R,j,none⟩ u).alloc ob) b w.heap.size ob:=by
 have e:(w.setCell ⟨R,j,none⟩ u).heap.size=w.heap.size:=by simp[World.setCell]
 refine⟨hB,by omega,fun _=>⟨by simp,?_⟩⟩
 have k:=heap_alloc_new (w.setCell ⟨R,j,none⟩ u) ob
 rw[e]at k
 exact k
theorem bx_set_al {R:Nat} {a b:World} (h:BX R isAny a b) (j:Nat) (u:Value) (ob:Obj) (hR:R < b.heap.size):BX R isAny a ((b.setCell ⟨R,j,none⟩ u).alloc ob):=(h.set j u trivial).trans (BX.of_below (al _) (by simpa [World.setCell] using hR))
abbrev willO (x:Int):Obj:=.cells #[.string ⟨#[]⟩,.string ⟨#[]⟩,.int .i64 (x / 8 % 4),.bool (btest x 32),.slice none 0 0] 112
abbrev strO:Obj:=.cells #[.string ⟨#[]⟩] 9
structure Rooms (B R:Nat) (w:World) (x:Int) (V U Q:Nat):Prop where
 v:Rm B R w (btest x 4) V (willO x)
 u:Rm B R w (btest x 128) U strO
 q:Rm B R w (btest x 64) Q strO
 vu:btest x 4=true->btest x 128=true->V≠U
 vq:btest x 4=true->btest x 64=true->V≠Q
 uq:btest x 128=true->btest x 64=true->U≠Q
def FlagsPost (w0:World) (R:Nat) (p:Pkv) (st:Option (List Int)) (w:World) (e:Ending) (w':World):Prop :=
 e=.returned (.tuple #[])/\∃ (x:Int) (V U Q:Nat) (st':Option (List Int)),(0<=x/\x<=255)/\Pk w' R { p with clean:=btest x 2,wills:=isW V (btest x 4),user:=isW U (btest x 128),pass:=isW Q (btest x 64) }/\Hid (Rooms w.heap.size R w' x V U Q)/\Stp flags? st x st'/\RS w0 w' R st'/\BX R isAny w w'
theorem Rw.of_new {w:World} {V:Nat} {u:Wv} {t:TypeId} (h:w.heap[V]?=some (.cells #[.string u.topic,.string u.payload,.int .i64 u.qos,.bool u.retain,u.props.val] t)):Rw w ⟨some ⟨V,0,none⟩,1,1⟩ 5 (wcs [u]):=by
 refine⟨rfl,⟨Nat.le_refl _,by unfold maxLen;simp⟩,.inr ⟨V,0,rfl,fun j hj=>?_⟩⟩
 rw[show (wcs [u]).length=5 from rfl]at hj
 match j,hj with
 | 0,_=>simp[World.cell?,h,wcs,Wv.cells]
 | 1,_=>simp[World.cell?,h,wcs,Wv.cells]
 | 2,_=>simp[World.cell?,h,wcs,Wv.cells]
 | 3,_=>simp[World.cell?,h,wcs,Wv.cells]
 | 4,_=>simp[World.cell?,h,wcs,Wv.cells]
theorem Rw.nil (w:World):Rw w ⟨none,0,0⟩ 5 (wcs []):=⟨rfl,⟨Nat.le_refl _,Nat.zero_le _⟩,.inl rfl⟩
theorem rflags_any (R:Nat) (p:Pkv) (st:Option (List Int)) (w0 w:World) (h:RS w0 w R st) (hp:Pk w R p) (hn1:p.wills=⟨none,0,0⟩) (hn2:p.user=⟨none,0,0⟩) (hn3:p.pass=⟨none,0,0⟩):Calls Tryz.prog 80 #[.pointer (some ⟨R,0,none⟩)] w (FlagsPost w0 R p st w):=by
 have hlt:=h.lt
 have HP:=zh hp
 have HS:=zh h
 have HN1:=zh hn1
 have HN2:=zh hn2
 have HN3:=zh hn3
 clear hp h hn1 hn2 hn3
 go_enter Tryz.func80,Tryz.ntmps80
 go_wp2_with fail
 refine wp_region_noPanic ?_
 refine wp_region_held_drew (S:=(fun _=>True)) (by kernel_rfl) trivial (fun hHeld=>?_)
 refine rtk 0 (h:=?_)
 refine rtk 1 (h:=?_)
 refine rtk 2 (h:=?_)
 refine rtk 3 (h:=?_)
 refine rcl 4 (h:=fun K hK=>?_)
 go_simp
 refine (one_any R st w0 _ ((uh HS).below (bel_drew w))).mono ?_
 rintro e w1 ⟨x,st1,rfl,hx,hs1,h1,hx1⟩
 refine hK.out _ _ trivial (fun hHeld=>?_)
 clear hK K
 refine rcl 5 (h:=fun K hK=>?_)
 go_simp
 refine hK.out _ _ trivial (fun hHeld=>?_)
 clear hK K
 refine rcl 6 (h:=fun K hK=>?_)
 go_simp
 refine hK.out _ _ trivial (fun hHeld=>?_)
 clear hK K
 refine wpAnyH_done (by kernel_rfl) ?_ _
 refine NoPanic.normal ?_
 have hp1:=((uh HP).below (bel_drew w)).bx hx1
 have c9:=hp1.clean
 have f9:=hp1.clean_f
 have c11:=hp1.wills
 have f11:=hp1.wills_f
 have hlt1:R < w1.heap.size:=Nat.lt_of_lt_of_le hlt hx1.size
 have hwl:w.heap.size<=w1.heap.size:=hx1.size
 have HP1:=zh (hp1.set_clean (btest x 2))
 have HS1:=zh (h1.set 9 (.bool (btest x 2)) (by decide))
 have HX1:Hid (BX R isAny w (w1.setCell ⟨R,9,none⟩ (.bool (btest x 2)))):=(((BX.of_below (bel_drew w) hlt).trans hx1).any).set 9 _ trivial
 have HST1:=zh hs1
 have b2:=and2 x hx.1 hx.2
 have b4:=and4 x hx.1 hx.2
 have b32:=and32 x hx.1 hx.2
 have b64:=and64 x hx.1 hx.2
 have b128:=and128 x hx.1 hx.2
 have b3:=shq x hx.1 hx.2
 rw[uh HN1]at c11
 clear hp1 h1 hx1 hs1 hHeld
 go_upto_if 21 with fail
 go_cut [] from 4 (fun wx=>∃ V,Hid (RS w0 wx R st1)/\Hid (Pk wx R { p with clean:=btest x 2,wills:=isW V (btest x 4) })/\Hid (BX R isAny w wx)/\Hid (Rm w.heap.size R wx (btest x 4) V (willO x)))
 case first =>
  cases h4:btest x 4
  ·rw[h4]at b4
   go_wp2
   go_meet
   case rel =>
    rw[h4]
    refine⟨w1.heap.size,HS1,?_,HX1,⟨hwl,by omega,fun h=>by cases h⟩⟩
    have e:{ p with clean:=btest x 2,wills:=isW w1.heap.size false }={ p with clean:=btest x 2 }:=by rw[show isW w1.heap.size false=p.wills from (uh HN1).symm]
    show Pk _ _ _
    rw[e]
    exact uh HP1
  ·rw[h4]at b4
   go_wp2
   go_meet
   case rel =>
    rw[h4]
    refine⟨w1.heap.size,((uh HS1).set 11 _ (by decide)).below (al _),((uh HP1).set_wills ⟨some ⟨w1.heap.size,0,none⟩,1,1⟩).below (al _),bx_set_al (uh HX1) 11 _ _ (by simpa [World.setCell] using hlt1),?_⟩
    have k:=Rm.new (B:=w.heap.size) (R:=R) (w:=w1.setCell ⟨R,9,none⟩ (.bool (btest x 2))) (willO x) (by simpa [World.setCell] using hwl) (by simpa [World.setCell] using hlt1) true 11 (.slice (some ⟨w1.heap.size,0,none⟩) 1 1)
    rw[show (w1.setCell ⟨R,9,none⟩ (.bool (btest x 2))).heap.size=w1.heap.size from by simp[World.setCell]]at k
    exact k
 case rest =>
 obtain⟨V,HS2,HP2,HX2,HV⟩:=hcut
 obtain⟨w2,hw2⟩:∃ w2,w2=wc:=⟨wc,rfl⟩
 subst hw2
 clear HP1 HS1 HX1 hlt1 hwl c9 f9 c11 f11
 have c12:=(uh HP2).user
 have f12:=(uh HP2).user_f
 simp only at c12
 rw[uh HN2]at c12
 have hlt2:R < w2.heap.size:=(uh HS2).lt
 have hwl2:w.heap.size<=w2.heap.size:=(uh HX2).size
 have hmk:=make_str
 go_upto_if 37 with fail
 go_cut [] from 4 (fun wx=>∃ U,Hid (RS w0 wx R st1)/\Hid (Pk wx R { p with clean:=btest x 2,wills:=isW V (btest x 4),user:=isW U (btest x 128) })/\Hid (BX R isAny w wx)/\Hid (Rm w.heap.size R wx (btest x 4) V (willO x))/\Hid (Rm w.heap.size R wx (btest x 128) U strO)/\Hid ((btest x 4=true->btest x 128=true->V≠U)))
 case first =>
  cases hb:btest x 128
  ·rw[hb]at b128
   go_wp2
   go_meet
   case rel =>
    refine⟨w2.heap.size,HS2,?_,HX2,HV,⟨hwl2,by omega,fun h=>by rw[hb]at h;cases h⟩,fun _ h=>by rw[hb]at h;cases h⟩
    have e:({ p with clean:=btest x 2,wills:=isW V (btest x 4),user:=isW w2.heap.size (btest x 128) }:Pkv)={ p with clean:=btest x 2,wills:=isW V (btest x 4) }:=by rw[hb,show isW w2.heap.size false=p.user from (uh HN2).symm]
    show Pk _ _ _
    rw[e]
    exact uh HP2
  ·rw[hb]at b128
   go_wp2
   go_meet
   case rel =>
    refine⟨w2.heap.size,((uh HS2).set 12 _ (by decide)).below (al _),?_,bx_set_al (uh HX2) 12 _ _ hlt2,(uh HV).bx (bx_set_al (BX.refl R isAny w2) 12 _ _ hlt2),Rm.new strO hwl2 hlt2 _ 12 _,fun h _=>by have:=((uh HV).2.2 h).1;omega⟩
    rw[hb]
    exact ((uh HP2).set_user ⟨some ⟨w2.heap.size,0,none⟩,1,1⟩).below (al _)
 case rest =>
 obtain⟨U,HS3,HP3,HX3,HV',HU,HVU⟩:=hcut
 obtain⟨w3,hw3⟩:∃ w3,w3=wc:=⟨wc,rfl⟩
 subst hw3
 clear HP2 HS2 HX2 hlt2 hwl2 c12 f12 HV
 have HV:=HV'
 clear HV'
 have c13:=(uh HP3).pass
 have f13:=(uh HP3).pass_f
 simp only at c13
 rw[uh HN3]at c13
 have hlt3:R < w3.heap.size:=(uh HS3).lt
 have hwl3:w.heap.size<=w3.heap.size:=(uh HX3).size
 have hmk:=make_str
 go_upto_if 44 with fail
 go_cut [] from 4 (fun wx=>∃ Q,Hid (RS w0 wx R st1)/\Hid (Pk wx R { p with clean:=btest x 2,wills:=isW V (btest x 4),user:=isW U (btest x 128),pass:=isW Q (btest x 64) })/\Hid (BX R isAny w wx)/\Hid (Rm w.heap.size R wx (btest x 4) V (willO x))/\Hid (Rm w.heap.size R wx (btest x 128) U strO)/\Hid (Rm w.heap.size R wx (btest x 64) Q strO)/\Hid ((btest x 4=true->btest x 64=true->V≠Q)/\(btest x 128=true->btest x 64=true->U≠Q)))
 case first =>
  cases hb:btest x 64
  ·rw[hb]at b64
   go_wp2
   go_meet
   case rel =>
    refine⟨w3.heap.size,HS3,?_,HX3,HV,HU,⟨hwl3,by omega,fun h=>by rw[hb]at h;cases h⟩,⟨(fun _ h=>by rw[hb]at h;cases h),(fun _ h=>by rw[hb]at h;cases h)⟩⟩
    have e:({ p with clean:=btest x 2,wills:=isW V (btest x 4),user:=isW U (btest x 128),pass:=isW w3.heap.size (btest x 64) }:Pkv)={ p with clean:=btest x 2,wills:=isW V (btest x 4),user:=isW U (btest x 128) }:=by rw[hb,show isW w3.heap.size false=p.pass from (uh HN3).symm]
    show Pk _ _ _
    rw[e]
    exact uh HP3
  ·rw[hb]at b64
   go_wp2
   go_meet
   case rel =>
    refine⟨w3.heap.size,((uh HS3).set 13 _ (by decide)).below (al _),?_,bx_set_al (uh HX3) 13 _ _ hlt3,(uh HV).bx (bx_set_al (BX.refl R isAny w3) 13 _ _ hlt3),(uh HU).bx (bx_set_al (BX.refl R isAny w3) 13 _ _ hlt3),Rm.new strO hwl3 hlt3 _ 13 _,⟨(fun h _=>by have:=((uh HV).2.2 h).1;omega),(fun h _=>by have:=((uh HU).2.2 h).1;omega)⟩⟩
    rw[hb]
    exact ((uh HP3).set_pass ⟨some ⟨w3.heap.size,0,none⟩,1,1⟩).below (al _)
 case rest =>
 obtain⟨Q,HS4,HP4,HX4,HV',HU',HQ,HVQ⟩:=hcut
 obtain⟨w4,hw4⟩:∃ w4,w4=wc:=⟨wc,rfl⟩
 subst hw4
 clear HP3 HS3 HX3 hlt3 hwl3 c13 f13 HV HU
 obtain⟨q,hq⟩:∃ q:Pkv,q={ p with clean:=btest x 2,wills:=isW V (btest x 4),user:=isW U (btest x 128),pass:=isW Q (btest x 64) }:=⟨_,rfl⟩
 have HP5:Hid (Pk w4 R q):=by rw[hq];exact HP4
 have HRW:Hid (Rw w4 q.wills 5 (wcs (cws x))):=by
  show Rw _ _ _ _
  rw[hq]
  unfold cws
  cases h4:btest x 4
  ·exact Rw.nil _
  ·have k:=((uh HV').2.2 h4).2
   exact Rw.of_new (u:=⟨⟨#[]⟩,⟨#[]⟩,x / 8 % 4,btest x 32,⟨none,0,0⟩⟩) k
 have hun:q.user.n=(btest x 128).toNat:=by rw[hq];cases btest x 128 <;> rfl
 have hpn:q.pass.n=(btest x 64).toNat:=by rw[hq];cases btest x 64 <;> rfl
 have hcl:q.clean=btest x 2:=by rw[hq]
 have HCF:Hid (cfok x=(cok q.user.n q.pass.n (cws x) && (cfl q.user.n q.pass.n q.clean (cws x) == x))):=by show _=_;rw[hun,hpn,hcl];rfl
 have hu1:q.user.n<=maxLen:=by rw[hun];cases btest x 128 <;> simp[maxLen]
 have hp1:q.pass.n<=maxLen:=by rw[hpn];cases btest x 64 <;> simp[maxLen]
 have HQ5:=zh hq
 clear hq hun hpn hcl
 have HCC:=zh (connectFlags_any q (cws x) w4 (uh HRW) hu1 hp1)
 generalize cfl q.user.n q.pass.n q.clean (cws x)=fl at HCF HCC
 generalize cok q.user.n q.pass.n (cws x)=bo at HCF HCC
 clear hu1 hp1
 go_upto_region 9 with fail
 iterate 7 go_step
 refine wpList_load_mid rfl 29 _ rfl R 0 rfl q.cells _ (uh HP5).range Tryz.underlying29 rfl packet_size ?_
 simp only[Act.put,List.setIfInBounds_toArray,List.set_cons_zero,List.set_cons_succ]
 go_wp2_with fail
 refine (uh HCC).mono ?_
 rintro e w5 ⟨rfl,hb5⟩
 have HB5:=zh hb5
 have HS5:=zh ((uh HS4).below hb5)
 clear hb5
 cases bo
 ·go_wp2_with fail
  refine (must_any R _ st1 w0 w5 (uh HS5)).mono ?_
  rintro e w6 ⟨rfl,h6,hx6⟩
  have HS6:=zh h6
  have HX6:=zh hx6
  clear h6 hx6
  go_wp2
  go_end0
  refine⟨rfl,x,V,U,Q,_,hx,((uh HP4).below (uh HB5)).bx (uh HX6),⟨((uh HV').below (uh HB5)).bx (uh HX6),((uh HU').below (uh HB5)).bx (uh HX6),((uh HQ).below (uh HB5)).bx (uh HX6),uh HVU,(uh HVQ).1,(uh HVQ).2⟩,?_,uh HS6,((uh HX4).trans (BX.of_below (uh HB5) (uh HS4).lt)).trans (uh HX6).any⟩
  refine (uh HST1).bind ((?_:Stp (mustR (cfok x)) st1 () (if false then st1 else none)).bind (Stp.pure _ _))
  rw[uh HCF]
  exact Stp.must _ _
 ·go_wp2_with fail
  refine (must_any R _ st1 w0 w5 (uh HS5)).mono ?_
  rintro e w6 ⟨rfl,h6,hx6⟩
  have HS6:=zh h6
  have HX6:=zh hx6
  clear h6 hx6
  go_wp2
  go_end0
  refine⟨rfl,x,V,U,Q,_,hx,((uh HP4).below (uh HB5)).bx (uh HX6),⟨((uh HV').below (uh HB5)).bx (uh HX6),((uh HU').below (uh HB5)).bx (uh HX6),((uh HQ).below (uh HB5)).bx (uh HX6),uh HVU,(uh HVQ).1,(uh HVQ).2⟩,?_,uh HS6,((uh HX4).trans (BX.of_below (uh HB5) (uh HS4).lt)).trans (uh HX6).any⟩
  refine (uh HST1).bind ((?_:Stp (mustR (cfok x)) st1 () (if (fl == x) then st1 else none)).bind (Stp.pure _ _))
  rw[uh HCF]
  exact Stp.must _ _
def will? (x:Int):List Int->Option (Option (List Pr×ByteArray×ByteArray)×List Int):=if btest x 4 then bindR (props? 16) fun q=>bindR text? fun t=>bindR bin? fun y=>pureR (some (q,t,y)) else pureR none
def user? (x:Int):List Int->Option (Option ByteArray×List Int):=if btest x 128 then bindR text? fun t=>pureR (some t) else pureR none
def pass? (x:Int):List Int->Option (Option ByteArray×List Int):=if btest x 64 then bindR bin? fun t=>pureR (some t) else pureR none
structure Cn where
 x:Int
 keep:Int
 props:List Pr
 client:ByteArray
 will:Option (List Pr×ByteArray×ByteArray)
 user:Option ByteArray
 pass:Option ByteArray
def isMQTT (m:ByteArray):Bool:=m.toList == [77,81,84,84]
def connect?:List Int->Option (Cn×List Int) :=
 bindR text? fun m=>bindR (mustR (isMQTT m)) fun _=>bindR one? fun v=>bindR (mustR (v == 5)) fun _=>bindR flags? fun x=>bindR two? fun k=>bindR (props? 1) fun pr=>bindR text? fun c =>
  bindR (will? x) fun wl=>bindR (user? x) fun us=>bindR (pass? x) fun pa=>pureR ⟨x,k,pr,c,wl,us,pa⟩
def WillAt (B N R:Nat) (w:World) (x:Int) (V:Nat) (wl:Option (List Pr×ByteArray×ByteArray)):Prop :=
 (btest x 4=false->wl=none)/\(btest x 4=true->∃ q t y tq,wl=some (q,t,y)/\B<=V/\V≠R/\V < w.heap.size/\w.heap[V]?=some (.cells #[.string t,.string y,.int .i64 (x / 8 % 4),.bool (btest x 32),Sl.val tq] 112)/\w.ownsRow N 109 4 tq.val q.length (pcs q))
def StrAt (B R:Nat) (w:World) (b:Bool) (U:Nat) (us:Option ByteArray):Prop :=
 (b=false->us=none)/\(b=true->∃ t,us=some t/\B<=U/\U≠R/\U < w.heap.size/\w.heap[U]?=some (.cells #[.string t] 9))
theorem StrAt.bx {B R:Nat} {may:Nat->Prop} {w w':World} {b:Bool} {U:Nat} {us:Option ByteArray} (h:StrAt B R w b U us) (hx:BX R may w w'):StrAt B R w' b U us :=
 ⟨h.1,fun hb=>by
  obtain⟨t,h1,h2,h3,h4,h5⟩:=h.2 hb
  exact⟨t,h1,h2,h3,Nat.lt_of_lt_of_le h4 hx.size,(hx.block U h4 h3).trans h5⟩⟩
theorem owns_out {w:World} {V j:Nat} {u:Value} {B:Nat} {e:TypeId} {s:Nat} {v:Value} {n:Nat} {xs:List Value} (h:w.ownsRow B e s v n xs) (hV:V < B):(w.setCell ⟨V,j,none⟩ u).ownsRow B e s v n xs:=by
 refine⟨h.1,?_⟩
 rcases h.2 with h1 | ⟨g,cap,cur,hv,hB,hg,rest⟩
 ·exact .inl h1
 ·exact .inr ⟨g,cap,cur,hv,hB,by rw[Below.heap_setCell _ _ _ _ (by show g≠V;omega)];exact hg,rest⟩
theorem WillAt.bx {B N R:Nat} {may:Nat->Prop} {w w':World} {x:Int} {V:Nat} {wl:Option (List Pr×ByteArray×ByteArray)} (h:WillAt B N R w x V wl) (hx:BX R may w w') (hR:R < N):WillAt B N R w' x V wl :=
 ⟨h.1,fun hb=>by
  obtain⟨q,t,y,tq,h1,h2,h3,h4,h5,h6⟩:=h.2 hb
  exact⟨q,t,y,tq,h1,h2,h3,Nat.lt_of_lt_of_le h4 hx.size,(hx.block V h4 h3).trans h5,owns_bx h6 hx hR⟩⟩
theorem WillAt.out {B N R:Nat} {w:World} {x:Int} {V U j:Nat} {u:Value} {wl:Option (List Pr×ByteArray×ByteArray)} (h:WillAt B N R w x V wl) (hU:btest x 4=true->V≠U) (hN:U < N):WillAt B N R (w.setCell ⟨U,j,none⟩ u) x V wl :=
 ⟨h.1,fun hb=>by
  obtain⟨q,t,y,tq,h1,h2,h3,h4,h5,h6⟩:=h.2 hb
  exact⟨q,t,y,tq,h1,h2,h3,by simpa [World.setCell] using h4,(Below.heap_setCell _ _ _ _ (hU hb)).trans h5,owns_out h6 hN⟩⟩
theorem StrAt.out {B R:Nat} {w:World} {b:Bool} {U V j:Nat} {u:Value} {us:Option ByteArray} (h:StrAt B R w b U us) (hV:b=true->U≠V):StrAt B R (w.setCell ⟨V,j,none⟩ u) b U us :=
 ⟨h.1,fun hb=>by
  obtain⟨t,h1,h2,h3,h4,h5⟩:=h.2 hb
  exact⟨t,h1,h2,h3,by simpa [World.setCell] using h4,(Below.heap_setCell _ _ _ _ (hV hb)).trans h5⟩⟩
theorem Rm.out {B R:Nat} {w:World} {b:Bool} {U V j:Nat} {u:Value} {ob:Obj} (h:Rm B R w b U ob) (hV:b=true->U≠V):Rm B R (w.setCell ⟨V,j,none⟩ u) b U ob :=
 ⟨h.1,h.2.1,fun hb=>⟨by simpa [World.setCell] using (h.2.2 hb).1,(Below.heap_setCell _ _ _ _ (hV hb)).trans (h.2.2 hb).2⟩⟩
theorem WillAt.base {B B' N R:Nat} {w:World} {x:Int} {V:Nat} {wl:Option (List Pr×ByteArray×ByteArray)} (h:WillAt B N R w x V wl) (hB:B'<=B):WillAt B' N R w x V wl :=
 ⟨h.1,fun hb=>by
  obtain⟨q,t,y,tq,h1,h2,h3⟩:=h.2 hb
  exact⟨q,t,y,tq,h1,Nat.le_trans hB h2,h3⟩⟩
theorem StrAt.base {B B' R:Nat} {w:World} {b:Bool} {U:Nat} {us:Option ByteArray} (h:StrAt B R w b U us) (hB:B'<=B):StrAt B' R w b U us :=
 ⟨h.1,fun hb=>by
  obtain⟨t,h1,h2,h3⟩:=h.2 hb
  exact⟨t,h1,Nat.le_trans hB h2,h3⟩⟩
theorem pk_out {w:World} {R V j:Nat} {u:Value} {p:Pkv} (h:Pk w R p) (hV:V≠R):Pk (w.setCell ⟨V,j,none⟩ u) R p:=fun i hi =>
 ⟨(World.cell?_setCell_other _ _ _ _ (fun e=>by injection e with e1 _;exact hV e1)).trans (h i hi).1,by simpa using (h i hi).2⟩
theorem heap_set {w:World} {V j:Nat} {u:Value} {c:Array Value} {t:TypeId} (h:w.heap[V]?=some (.cells c t)):(w.setCell ⟨V,j,none⟩ u).heap[V]?=some (.cells (c.setIfInBounds j u) t):=by
 unfold World.setCell
 simp[Array.getElem?_modify,h]
def ConnPost (w0:World) (R:Nat) (p:Pkv) (st:Option (List Int)) (w:World) (e:Ending) (w':World):Prop :=
 e=.returned (.tuple #[])/\∃ (n:Cn) (V U Q N:Nat) (tp:Sl) (st':Option (List Int)),Pk w' R { p with clean:=btest n.x 2,wills:=isW V (btest n.x 4),user:=isW U (btest n.x 128),pass:=isW Q (btest n.x 64),keep:=n.keep,props:=tp,client:=n.client }/\Hid (w'.ownsRow w.heap.size 109 4 tp.val n.props.length (pcs n.props))/\w.heap.size<=N/\Hid (WillAt w.heap.size N R w' n.x V n.will)/\Hid (StrAt w.heap.size R w' (btest n.x 128) U n.user)/\Hid (StrAt w.heap.size R w' (btest n.x 64) Q n.pass)/\Stp connect? st n st'/\RS w0 w' R st'/\BX R isAny w w'
theorem connect_any (R:Nat) (p:Pkv) (st:Option (List Int)) (w0 w:World) (h:RS w0 w R st) (hp:Pk w R p) (hk:p.kind=1) (hn1:p.wills=⟨none,0,0⟩) (hn2:p.user=⟨none,0,0⟩) (hn3:p.pass=⟨none,0,0⟩):Calls Tryz.prog 51 #[.pointer (some ⟨R,0,none⟩)] w (ConnPost w0 R p st w):=by
 have hlt:=h.lt
 have HP:=zh hp
 have HS:=zh h
 have HK:=zh hk
 have HN1:=zh hn1
 have HN2:=zh hn2
 have HN3:=zh hn3
 clear hp h hk hn1 hn2 hn3
 go_enter Tryz.func51,Tryz.ntmps51
 go_wp2_with fail
 refine (text_any R st w0 w (uh HS)).mono ?_
 rintro e w1 ⟨m,st1,rfl,-,hs1,h1,hx1⟩
 have HS1:=zh h1
 have HX1:=zh hx1
 have HST1:=zh hs1
 clear h1 hx1 hs1
 go_wp2_with fail
 refine (must_any R _ st1 w0 w1 (uh HS1)).mono ?_
 rintro e w2 ⟨rfl,h2,hx2⟩
 have HS2:=zh h2
 have HX2:Hid (BX R isRE w w2):=(uh HX1).trans hx2
 clear h2 hx2 HX1 HS1
 go_wp2_with fail
 refine (one_any R _ w0 w2 (uh HS2)).mono ?_
 rintro e w3 ⟨v,st3,rfl,-,hs3,h3,hx3⟩
 have HS3:=zh h3
 have HX3:Hid (BX R isRE w w3):=(uh HX2).trans hx3
 have HST3:=zh hs3
 clear h3 hx3 hs3 HX2 HS2
 go_wp2_with fail
 refine (must_any R _ st3 w0 w3 (uh HS3)).mono ?_
 rintro e w4 ⟨rfl,h4,hx4⟩
 have HX4:Hid (BX R isRE w w4):=(uh HX3).trans hx4
 have HP4:=zh ((uh HP).bx (uh HX4))
 have HS4:=zh h4
 clear h4 hx4 HX3 HS3
 go_wp2_with fail
 refine (rflags_any R p _ w0 w4 (uh HS4) (uh HP4) (uh HN1) (uh HN2) (uh HN3)).mono ?_
 rintro e w5 ⟨rfl,x,V,U,Q,st5,hx,hp5,hR5,hs5,h5,hx5⟩
 have HX5:Hid (BX R isAny w w5):=(uh HX4).any.trans hx5
 have hsz4:w.heap.size<=w4.heap.size:=(uh HX4).size
 have hsz45:w4.heap.size<=w5.heap.size:=hx5.size
 have HS5:=zh h5
 have HP5:=zh hp5
 have HST5:=zh hs5
 clear h5 hx5 hs5 hp5 HX4 HS4 HP4
 go_wp2_with fail
 refine (two_any R st5 w0 w5 (uh HS5)).mono ?_
 rintro e w6 ⟨k,st6,rfl,hk6,hs6,h6,hx6⟩
 have hp6:=(uh HP5).bx hx6
 have c10:=hp6.keep
 have f10:=hp6.keep_f
 have HP6:=zh (hp6.set_keep k)
 have HS6:=zh (h6.set 10 (.int .i64 k) (by decide))
 have HX6:Hid (BX R isAny w (w6.setCell ⟨R,10,none⟩ (.int .i64 k))):=((uh HX5).trans hx6.any).set 10 _ trivial
 have HXR6:Hid (BX R isAny w5 (w6.setCell ⟨R,10,none⟩ (.int .i64 k))):=(hx6.any).set 10 _ trivial
 have HST6:=zh hs6
 have c0:w6.cell? ⟨R,0,none⟩=some (.int .i64 1):=hp6.kind.trans (congrArg (fun z=>some (Value.int .i64 z)) (uh HK))
 clear h6 hx6 hs6 hp6 HX5 HS5 HP5 hk6
 go_wp2_with fail
 refine (props_any R 1 st6 w0 _ (uh HS6)).mono ?_
 rintro e w7 ⟨tp,pr,st7,rfl,hO7,hs7,h7,hx7⟩
 have hp7:=(uh HP6).bx hx7
 have c7:=hp7.props
 have f7:=hp7.props_f
 have HP7:=zh (hp7.set_props tp)
 have HS7:=zh (h7.set 7 tp.val (by decide))
 have HX7:Hid (BX R isAny w (w7.setCell ⟨R,7,none⟩ tp.val)):=((uh HX6).trans hx7.any).set 7 _ trivial
 have HXR7:Hid (BX R isAny w5 (w7.setCell ⟨R,7,none⟩ tp.val)):=((uh HXR6).trans hx7.any).set 7 _ trivial
 obtain⟨M,hM⟩:∃ M,M=(w6.setCell ⟨R,10,none⟩ (.int .i64 k)).heap.size:=⟨_,rfl⟩
 have hM0:w.heap.size<=M:=by rw[hM];exact (uh HX6).size
 have hM5:w5.heap.size<=M:=by rw[hM];exact (uh HXR6).size
 rw[<- hM]at hO7
 have HO7:Hid ((w7.setCell ⟨R,7,none⟩ tp.val).ownsRow M 109 4 tp.val pr.length (pcs pr)):=owns_bx (uh hO7) ((BX.refl R isAny w7).set 7 _ trivial) (Nat.lt_of_lt_of_le hlt hM0)
 have hM7:M<=(w7.setCell ⟨R,7,none⟩ tp.val).heap.size:=by rw[hM];simpa [World.setCell] using hx7.size
 clear hM
 have HST7:=zh hs7
 clear h7 hx7 hs7 hp7 hO7 HX6 HS6 HP6 HXR6 c10 f10 c0
 go_wp2_with fail
 refine (text_any R st7 w0 _ (uh HS7)).mono ?_
 rintro e w8 ⟨c,st8,rfl,-,hs8,h8,hx8⟩
 have hp8:=(uh HP7).bx hx8
 have c8:=hp8.client
 have f8:=hp8.client_f
 have HP8:Hid (Pk (w8.setCell ⟨R,8,none⟩ (.string c)) R { p with clean:=btest x 2,wills:=isW V (btest x 4),user:=isW U (btest x 128),pass:=isW Q (btest x 64),keep:=k,props:=tp,client:=c }):=hp8.set_client c
 have HS8:=zh (h8.set 8 (.string c) (by decide))
 have HX8:Hid (BX R isAny w (w8.setCell ⟨R,8,none⟩ (.string c))):=((uh HX7).trans hx8.any).set 8 _ trivial
 have HXR8:BX R isAny w5 (w8.setCell ⟨R,8,none⟩ (.string c)):=((uh HXR7).trans hx8.any).set 8 _ trivial
 have HV8:Hid (Rm w4.heap.size R (w8.setCell ⟨R,8,none⟩ (.string c)) (btest x 4) V (willO x)):=(uh hR5).v.bx HXR8
 have HU8:Hid (Rm w4.heap.size R (w8.setCell ⟨R,8,none⟩ (.string c)) (btest x 128) U strO):=(uh hR5).u.bx HXR8
 have HQ8:Hid (Rm w4.heap.size R (w8.setCell ⟨R,8,none⟩ (.string c)) (btest x 64) Q strO):=(uh hR5).q.bx HXR8
 have HNE:=zh (And.intro (uh hR5).vu (And.intro (uh hR5).vq (uh hR5).uq))
 have HO8:Hid ((w8.setCell ⟨R,8,none⟩ (.string c)).ownsRow M 109 4 tp.val pr.length (pcs pr)):=owns_bx (uh HO7) ((hx8.any).set 8 _ trivial) (Nat.lt_of_lt_of_le hlt hM0)
 have HVM:Hid ((btest x 4=true->V < M)/\(btest x 128=true->U < M)/\(btest x 64=true->Q < M)):=⟨fun h=>Nat.lt_of_lt_of_le ((uh hR5).v.2.2 h).1 hM5,fun h=>Nat.lt_of_lt_of_le ((uh hR5).u.2.2 h).1 hM5,fun h=>Nat.lt_of_lt_of_le ((uh hR5).q.2.2 h).1 hM5⟩
 have HST8:Hid (∀ wl us pa st9 st10 st11,Stp (will? x) st8 wl st9->Stp (user? x) st9 us st10->Stp (pass? x) st10 pa st11->Stp connect? st ⟨x,k,pr,c,wl,us,pa⟩ st11):=fun wl us pa st9 st10 st11 k1 k2 k3 =>
  (uh HST1).bind ((Stp.must _ st1).bind ((uh HST3).bind ((Stp.must _ st3).bind ((uh HST5).bind ((uh HST6).bind ((uh HST7).bind (hs8.bind (k1.bind (k2.bind (k3.bind (Stp.pure _ _)))))))))))
 have HX8s:Hid (w4.heap.size<=(w8.setCell ⟨R,8,none⟩ (.string c)).heap.size):=Nat.le_trans hsz45 HXR8.size
 have HM8:Hid (M<=(w8.setCell ⟨R,8,none⟩ (.string c)).heap.size):=Nat.le_trans hM7 (by simpa [World.setCell] using hx8.size)
 clear h8 hx8 hs8 hp8 hR5 HO7 HX7 HS7 HP7 HXR7 HXR8 c7 f7 HST1 HST3 HST5 HST6 HST7
 go_upto_region 7 with fail
 generalize hW:w8.setCell ⟨R,8,none⟩ (.string c)=w9 at HX8s HM8 HP8 HS8 HX8 HV8 HU8 HQ8 HO8 |-
 have c11:w9.cell? ⟨R,11,none⟩=some (.slice (isW V (btest x 4)).ao (isW V (btest x 4)).n (isW V (btest x 4)).cap):=(uh HP8).wills
 have hlt9:R < w9.heap.size:=(uh HS8).lt
 have hs49:w4.heap.size<=w9.heap.size:=(uh HX8s)
 have hM9:M<=w9.heap.size:=uh HM8
 have h0w:w0.heap.size<=w4.heap.size:=Nat.le_trans (uh HS).keep.size hsz4
 clear hW c8 f8
 go_upto_block 0 with fail
 go_cut [] from 3 (fun wx=>∃ wl st9,Hid (RS w0 wx R st9)/\Hid (Pk wx R { p with clean:=btest x 2,wills:=isW V (btest x 4),user:=isW U (btest x 128),pass:=isW Q (btest x 64),keep:=k,props:=tp,client:=c })/\Hid (BX R isAny w wx)/\Hid (WillAt w4.heap.size w9.heap.size R wx x V wl)/\Hid (Rm w4.heap.size R wx (btest x 128) U strO)/\Hid (Rm w4.heap.size R wx (btest x 64) Q strO)/\Hid (wx.ownsRow M 109 4 tp.val pr.length (pcs pr))/\Hid (Stp (will? x) st8 wl st9)/\w9.heap.size<=wx.heap.size)
 case first =>
  cases h4:btest x 4
  ·rw[h4]at c11
   rw[show isW V false=⟨none,0,0⟩ from rfl]at c11 |-
   go_wp2
   refine wp_loop_rounds 1 ?_
   rw[rounds_succ]
   go_wp2
   go_meet
   case rel =>
    refine⟨none,st8,HS8,HP8,HX8,⟨fun _=>rfl,fun h=>by rw[h4]at h;cases h⟩,HU8,HQ8,HO8,?_,Nat.le_refl _⟩
    show Stp (will? x) st8 none st8
    unfold will?
    rw[h4]
    exact Stp.pure _ _
  ·rw[h4]at c11
   rw[show isW V true=⟨some ⟨V,0,none⟩,1,1⟩ from rfl]at c11 |-
   obtain⟨hV0,hVR,hVb⟩:=uh HV8
   obtain⟨hVl,hVh⟩:=hVb h4
   have hVM:=(uh HVM).1 h4
   have hVh0:Hid (w9.heap[V]?=some (.cells #[.string ⟨#[]⟩,.string ⟨#[]⟩,.int .i64 (x / 8 % 4),.bool (btest x 32),.slice none 0 0] 112)):=hVh
   clear hVb hVh
   have HU9:Hid (btest x 128=true->U≠V):=fun h e=>(uh HNE).1 h4 h e.symm
   have HQ9:Hid (btest x 64=true->Q≠V):=fun h e=>(uh HNE).2.1 h4 h e.symm
   go_wp2
   refine wp_loop_rounds 2 ?_
   rw[rounds_succ]
   go_wp2_with fail
   refine (props_any R 16 st8 w0 w9 (uh HS8)).mono ?_
   rintro e w10 ⟨tq,q,st10,rfl,hO10,hs10,h10,hx10⟩
   have b10:w10.heap[V]?=some (.cells #[.string ⟨#[]⟩,.string ⟨#[]⟩,.int .i64 (x / 8 % 4),.bool (btest x 32),.slice none 0 0] 112):=(hx10.block V hVl hVR).trans (uh hVh0)
   have v4:w10.cell? ⟨V,4,none⟩=some (.slice none 0 0):=by simp[World.cell?,b10]
   have g4:w10.frozen? ⟨V,4,none⟩=false:=by simp[World.frozen?,b10]
   have hVl10:V < w10.heap.size:=Nat.lt_of_lt_of_le hVl hx10.size
   have BV10:Hid ((w10.setCell ⟨V,4,none⟩ tq.val).heap[V]?=some (.cells #[.string ⟨#[]⟩,.string ⟨#[]⟩,.int .i64 (x / 8 % 4),.bool (btest x 32),Sl.val tq] 112)):=by
    have k:=heap_set (j:=4) (u:=tq.val) b10
    show _=_
    simpa using k
   have HS10:Hid (RS w0 (w10.setCell ⟨V,4,none⟩ tq.val) R st10):=h10.setOut V 4 _ hVR (Nat.le_trans h0w hV0) (fun t y e=>by simp[World.cell?,b10]at e)
   have HX10:Hid (BX R isAny w (w10.setCell ⟨V,4,none⟩ tq.val)):=((uh HX8).trans hx10.any).setOut V 4 _ (Nat.le_trans hsz4 hV0) hlt
   have HO10:Hid ((w10.setCell ⟨V,4,none⟩ tq.val).ownsRow w9.heap.size 109 4 tq.val q.length (pcs q)):=owns_out (uh hO10) hVl
   have HT10:Hid ((w10.setCell ⟨V,4,none⟩ tq.val).ownsRow M 109 4 tp.val pr.length (pcs pr)):=owns_out (owns_bx (uh HO8) hx10 (Nat.lt_of_lt_of_le hlt hM0)) hVM
   have HP10:Hid (Pk (w10.setCell ⟨V,4,none⟩ tq.val) R { p with clean:=btest x 2,wills:=isW V (btest x 4),user:=isW U (btest x 128),pass:=isW Q (btest x 64),keep:=k,props:=tp,client:=c }):=pk_out ((uh HP8).bx hx10) hVR
   have HU10:Hid (Rm w4.heap.size R (w10.setCell ⟨V,4,none⟩ tq.val) (btest x 128) U strO):=((uh HU8).bx hx10).out (uh HU9)
   have HQ10:Hid (Rm w4.heap.size R (w10.setCell ⟨V,4,none⟩ tq.val) (btest x 64) Q strO):=((uh HQ8).bx hx10).out (uh HQ9)
   have HN10:w9.heap.size<=(w10.setCell ⟨V,4,none⟩ tq.val).heap.size:=by simpa [World.setCell] using hx10.size
   have hl10:V < (w10.setCell ⟨V,4,none⟩ tq.val).heap.size:=by simpa [World.setCell] using hVl10
   have HST10:=zh hs10
   clear hO10 hs10 h10 hx10 c11 b10
   go_wp2_with fail
   refine (text_any R st10 w0 _ (uh HS10)).mono ?_
   rintro e w11 ⟨t,st11,rfl,-,hs11,h11,hx11⟩
   have b11:w11.heap[V]?=some (.cells #[.string ⟨#[]⟩,.string ⟨#[]⟩,.int .i64 (x / 8 % 4),.bool (btest x 32),Sl.val tq] 112):=(hx11.block V hl10 hVR).trans (uh BV10)
   have v0:w11.cell? ⟨V,0,none⟩=some (.string ⟨#[]⟩):=by simp[World.cell?,b11]
   have g0:w11.frozen? ⟨V,0,none⟩=false:=by simp[World.frozen?,b11]
   have BV11:Hid ((w11.setCell ⟨V,0,none⟩ (.string t)).heap[V]?=some (.cells #[.string t,.string ⟨#[]⟩,.int .i64 (x / 8 % 4),.bool (btest x 32),Sl.val tq] 112)):=by
    have k:=heap_set (j:=0) (u:=.string t) b11
    show _=_
    simpa using k
   have HS11:Hid (RS w0 (w11.setCell ⟨V,0,none⟩ (.string t)) R st11):=h11.setOut V 0 _ hVR (Nat.le_trans h0w hV0) (fun t y e=>by simp[World.cell?,b11]at e)
   have HX11:Hid (BX R isAny w (w11.setCell ⟨V,0,none⟩ (.string t))):=((uh HX10).trans hx11.any).setOut V 0 _ (Nat.le_trans hsz4 hV0) hlt
   have HO11:Hid ((w11.setCell ⟨V,0,none⟩ (.string t)).ownsRow w9.heap.size 109 4 tq.val q.length (pcs q)):=owns_out (owns_bx (uh HO10) hx11 hlt9) hVl
   have HT11:Hid ((w11.setCell ⟨V,0,none⟩ (.string t)).ownsRow M 109 4 tp.val pr.length (pcs pr)):=owns_out (owns_bx (uh HT10) hx11 (Nat.lt_of_lt_of_le hlt hM0)) hVM
   have HP11:Hid (Pk (w11.setCell ⟨V,0,none⟩ (.string t)) R { p with clean:=btest x 2,wills:=isW V (btest x 4),user:=isW U (btest x 128),pass:=isW Q (btest x 64),keep:=k,props:=tp,client:=c }):=pk_out ((uh HP10).bx hx11) hVR
   have HU11:Hid (Rm w4.heap.size R (w11.setCell ⟨V,0,none⟩ (.string t)) (btest x 128) U strO):=((uh HU10).bx hx11).out (uh HU9)
   have HQ11:Hid (Rm w4.heap.size R (w11.setCell ⟨V,0,none⟩ (.string t)) (btest x 64) Q strO):=((uh HQ10).bx hx11).out (uh HQ9)
   have HN11:w9.heap.size<=(w11.setCell ⟨V,0,none⟩ (.string t)).heap.size:=Nat.le_trans HN10 (by simpa [World.setCell] using hx11.size)
   have hl11:V < (w11.setCell ⟨V,0,none⟩ (.string t)).heap.size:=Nat.lt_of_lt_of_le hl10 (by simpa [World.setCell] using hx11.size)
   have HST11:=zh hs11
   clear hs11 h11 hx11 b11 v4 g4 HS10 HX10 HO10 HT10 HP10 HU10 HQ10 HN10 BV10
   go_wp2_with fail
   refine (bin_any R st11 w0 _ (uh HS11)).mono ?_
   rintro e w12 ⟨y,st12,rfl,-,hs12,h12,hx12⟩
   have b12:w12.heap[V]?=some (.cells #[.string t,.string ⟨#[]⟩,.int .i64 (x / 8 % 4),.bool (btest x 32),Sl.val tq] 112):=(hx12.block V hl11 hVR).trans (uh BV11)
   have v1:w12.cell? ⟨V,1,none⟩=some (.string ⟨#[]⟩):=by simp[World.cell?,b12]
   have g1:w12.frozen? ⟨V,1,none⟩=false:=by simp[World.frozen?,b12]
   have BV12:Hid ((w12.setCell ⟨V,1,none⟩ (.string y)).heap[V]?=some (.cells #[.string t,.string y,.int .i64 (x / 8 % 4),.bool (btest x 32),Sl.val tq] 112)):=by
    have k:=heap_set (j:=1) (u:=.string y) b12
    show _=_
    simpa using k
   have HS12:Hid (RS w0 (w12.setCell ⟨V,1,none⟩ (.string y)) R st12):=h12.setOut V 1 _ hVR (Nat.le_trans h0w hV0) (fun t y e=>by simp[World.cell?,b12]at e)
   have HX12:Hid (BX R isAny w (w12.setCell ⟨V,1,none⟩ (.string y))):=((uh HX11).trans hx12.any).setOut V 1 _ (Nat.le_trans hsz4 hV0) hlt
   have HO12:Hid ((w12.setCell ⟨V,1,none⟩ (.string y)).ownsRow w9.heap.size 109 4 tq.val q.length (pcs q)):=owns_out (owns_bx (uh HO11) hx12 hlt9) hVl
   have HT12:Hid ((w12.setCell ⟨V,1,none⟩ (.string y)).ownsRow M 109 4 tp.val pr.length (pcs pr)):=owns_out (owns_bx (uh HT11) hx12 (Nat.lt_of_lt_of_le hlt hM0)) hVM
   have HP12:Hid (Pk (w12.setCell ⟨V,1,none⟩ (.string y)) R { p with clean:=btest x 2,wills:=isW V (btest x 4),user:=isW U (btest x 128),pass:=isW Q (btest x 64),keep:=k,props:=tp,client:=c }):=pk_out ((uh HP11).bx hx12) hVR
   have HU12:Hid (Rm w4.heap.size R (w12.setCell ⟨V,1,none⟩ (.string y)) (btest x 128) U strO):=((uh HU11).bx hx12).out (uh HU9)
   have HQ12:Hid (Rm w4.heap.size R (w12.setCell ⟨V,1,none⟩ (.string y)) (btest x 64) Q strO):=((uh HQ11).bx hx12).out (uh HQ9)
   have HN12:w9.heap.size<=(w12.setCell ⟨V,1,none⟩ (.string y)).heap.size:=Nat.le_trans HN11 (by simpa [World.setCell] using hx12.size)
   have hl12:V < (w12.setCell ⟨V,1,none⟩ (.string y)).heap.size:=Nat.lt_of_lt_of_le hl11 (by simpa [World.setCell] using hx12.size)
   have HST12:Hid (Stp (will? x) st8 (some (q,t,y)) st12):=by
    show Stp _ _ _ _
    unfold will?
    rw[h4,if_pos rfl]
    exact (uh HST10).bind ((uh HST11).bind (hs12.bind (Stp.pure _ _)))
   clear hs12 h12 hx12 b12 v0 g0 HS11 HX11 HO11 HT11 HP11 HU11 HQ11 HN11 BV11
   go_wp2
   rw[rounds_succ]
   go_wp2
   go_meet
   case rel =>
    exact⟨some (q,t,y),st12,HS12,HP12,HX12,⟨(fun h=>by rw[h4]at h;cases h),fun _=>⟨q,t,y,tq,rfl,hV0,hVR,hl12,uh BV12,uh HO12⟩⟩,HU12,HQ12,HT12,HST12,HN12⟩
 case rest =>
 obtain⟨wl,st9,HS9,HP9,HX9,HWL,HU,HQ,HO9,HST9,hN9⟩:=hcut
 obtain⟨wb,hwb⟩:∃ wb,wb=wc:=⟨wc,rfl⟩
 subst hwb
 clear HP8 HS8 HX8 HV8 HU8 HQ8 HO8 c11
 have cU:wb.cell? ⟨R,12,none⟩=some (.slice (isW U (btest x 128)).ao (isW U (btest x 128)).n (isW U (btest x 128)).cap):=(uh HP9).user
 go_upto_block 2 with fail
 go_cut [] from 3 (fun wx=>∃ us stu,Hid (RS w0 wx R stu)/\Hid (Pk wx R { p with clean:=btest x 2,wills:=isW V (btest x 4),user:=isW U (btest x 128),pass:=isW Q (btest x 64),keep:=k,props:=tp,client:=c })/\Hid (BX R isAny w wx)/\Hid (WillAt w4.heap.size w9.heap.size R wx x V wl)/\Hid (StrAt w4.heap.size R wx (btest x 128) U us)/\Hid (Rm w4.heap.size R wx (btest x 64) Q strO)/\Hid (wx.ownsRow M 109 4 tp.val pr.length (pcs pr))/\Hid (Stp (user? x) st9 us stu)/\w9.heap.size<=wx.heap.size)
 case first =>
  cases hb:btest x 128
  ·rw[hb]at cU
   rw[show isW U false=⟨none,0,0⟩ from rfl]at cU |-
   go_wp2
   refine wp_loop_rounds 1 ?_
   rw[rounds_succ]
   go_wp2
   go_meet
   case rel =>
    refine⟨none,st9,HS9,HP9,HX9,HWL,⟨fun _=>rfl,fun h=>by rw[hb]at h;cases h⟩,HQ,HO9,?_,hN9⟩
    show Stp (user? x) st9 none st9
    unfold user?
    rw[hb]
    exact Stp.pure _ _
  ·rw[hb]at cU
   rw[show isW U true=⟨some ⟨U,0,none⟩,1,1⟩ from rfl]at cU |-
   obtain⟨hU0,hUR,hUb⟩:=uh HU
   obtain⟨hUl,hUh0⟩:=hUb hb
   have hUh:=zh hUh0
   clear hUb hUh0
   have hUM:=(uh HVM).2.1 hb
   go_wp2
   refine wp_loop_rounds 2 ?_
   rw[rounds_succ]
   go_wp2_with fail
   refine wp_region_noPanic ?_
   refine wp_region_held_drew (S:=(fun w'=>w'.cell? ⟨R,12,none⟩=some (.slice (some ⟨U,0,none⟩) 1 1))) (by kernel_rfl) (by simpa using cU) (fun hHeld=>?_)
   refine rtk 0 (h:=?_)
   refine rtk 1 (h:=?_)
   refine rtk 2 (h:=?_)
   refine rtk 3 (h:=?_)
   refine rtk 4 (h:=?_)
   refine rtk 5 (h:=?_)
   refine rcl 6 (h:=fun K hK=>?_)
   go_simp
   refine (text_any R st9 w0 _ ((uh HS9).below (bel_drew wb))).mono ?_
   rintro e w20 ⟨t,stu,rfl,-,hs20,h20,hx20⟩
   have hxw:BX R isRE wb w20:=(BX.of_below (bel_drew wb) (uh HS9).lt).trans hx20
   have hcU:w20.cell? ⟨R,12,none⟩=some (.slice (some ⟨U,0,none⟩) 1 1):=(hxw.cell 12 (by unfold isRE;omega)).trans cU
   have b20:w20.heap[U]?=some strO:=(hxw.block U hUl hUR).trans (uh hUh)
   have v0:w20.cell? ⟨U,0,none⟩=some (.string ⟨#[]⟩):=by simp[World.cell?,b20]
   have g0:w20.frozen? ⟨U,0,none⟩=false:=by simp[World.frozen?,b20]
   have BU:Hid ((w20.setCell ⟨U,0,none⟩ (.string t)).heap[U]?=some (.cells #[.string t] 9)):=by
    have k:=heap_set (j:=0) (u:=.string t) b20
    show _=_
    simpa using k
   have HS20:Hid (RS w0 (w20.setCell ⟨U,0,none⟩ (.string t)) R stu):=h20.setOut U 0 _ hUR (Nat.le_trans h0w hU0) (fun t y e=>by simp[World.cell?,b20]at e)
   have HX20:Hid (BX R isAny w (w20.setCell ⟨U,0,none⟩ (.string t))):=((uh HX9).trans hxw.any).setOut U 0 _ (Nat.le_trans hsz4 hU0) hlt
   have HT20:Hid ((w20.setCell ⟨U,0,none⟩ (.string t)).ownsRow M 109 4 tp.val pr.length (pcs pr)):=owns_out (owns_bx (uh HO9) hxw (Nat.lt_of_lt_of_le hlt hM0)) hUM
   have HP20:Hid (Pk (w20.setCell ⟨U,0,none⟩ (.string t)) R { p with clean:=btest x 2,wills:=isW V (btest x 4),user:=isW U (btest x 128),pass:=isW Q (btest x 64),keep:=k,props:=tp,client:=c }):=pk_out ((uh HP9).bx hxw) hUR
   have HW20:Hid (WillAt w4.heap.size w9.heap.size R (w20.setCell ⟨U,0,none⟩ (.string t)) x V wl):=((uh HWL).bx hxw hlt9).out (fun h=>(uh HNE).1 h hb) (Nat.lt_of_lt_of_le hUM hM9)
   have HN20:w9.heap.size<=(w20.setCell ⟨U,0,none⟩ (.string t)).heap.size:=Nat.le_trans hN9 (by simpa [World.setCell] using hxw.size)
   have hl20:U < (w20.setCell ⟨U,0,none⟩ (.string t)).heap.size:=Nat.lt_of_lt_of_le hUl (by simpa [World.setCell] using hxw.size)
   have HST20:Hid (Stp (user? x) st9 (some t) stu):=by
    show Stp _ _ _ _
    unfold user?
    rw[hb,if_pos rfl]
    exact hs20.bind (Stp.pure _ _)
   have H2Q:Hid (Rm w4.heap.size R (w20.setCell ⟨U,0,none⟩ (.string t)) (btest x 64) Q strO):=((uh HQ).bx hxw).out (fun h e=>(uh HNE).2.2 hb h e.symm)
   have hcS:(w20.setCell ⟨U,0,none⟩ (.string t)).cell? ⟨R,12,none⟩=some (.slice (some ⟨U,0,none⟩) 1 1):=(World.cell?_setCell_other _ _ _ _ (fun e=>by injection e with e1 _;exact hUR e1)).trans hcU
   clear hs20 h20 hx20 hxw
   refine hK.out _ _ (by exact hcU) (fun hHeld=>?_)
   clear hK K
   refine rtk 7 (h:=?_)
   refine rcl 8 (h:=fun K hK=>?_)
   go_simp
   refine hK.out _ _ (by exact hcS) (fun hHeld=>?_)
   clear hK K
   refine wpAnyH_done (by kernel_rfl) ?_ _
   refine NoPanic.normal ?_
   clear cU hcU v0 g0 b20 hcS hHeld
   go_wp2
   rw[rounds_succ]
   go_wp2
   go_meet
   case rel =>
    exact⟨some t,stu,HS20,HP20,HX20,HW20,⟨(fun h=>by rw[hb]at h;cases h),fun _=>⟨t,rfl,hU0,hUR,hl20,uh BU⟩⟩,H2Q,HT20,HST20,HN20⟩
 case rest =>
 obtain⟨us,stu,HSu,HPu,HXu,HWLu,HDU,HQu,HOu,HSTu,hNu⟩:=hcut
 obtain⟨we,hwe⟩:∃ we,we=wc:=⟨wc,rfl⟩
 subst hwe
 clear HS9 HP9 HX9 HWL HU HQ HO9 hN9 cU
 have HS13:=HSu
 have HP13:=HPu
 have HX13:=HXu
 have HWL:=HWLu
 have HQ:=HQu
 have HO13:=HOu
 have hN13:=hNu
 clear HSu HPu HXu HWLu HQu HOu hNu
 have cU:we.cell? ⟨R,13,none⟩=some (.slice (isW Q (btest x 64)).ao (isW Q (btest x 64)).n (isW Q (btest x 64)).cap):=(uh HP13).pass
 cases hb:btest x 64
 ·rw[hb]at cU
  rw[show isW Q false=⟨none,0,0⟩ from rfl]at cU
  go_wp2
  refine wp_loop_rounds 1 ?_
  rw[rounds_succ]
  go_wp2
  go_end0
  have hSP:Stp (pass? x) stu none stu:=by
   unfold pass?
   rw[hb,if_neg (by decide)]
   exact Stp.pure _ _
  exact⟨rfl,⟨x,k,pr,c,wl,us,none⟩,V,U,Q,w9.heap.size,tp,_,uh HP13,owns_mono (uh HO13) hM0,Nat.le_trans hsz4 hs49,(uh HWL).base hsz4,(uh HDU).base hsz4,⟨fun _=>rfl,fun h=>by rw[hb]at h;cases h⟩,(uh HST8) _ _ _ _ _ _ (uh HST9) (uh HSTu) hSP,uh HS13,uh HX13⟩
 ·rw[hb]at cU
  rw[show isW Q true=⟨some ⟨Q,0,none⟩,1,1⟩ from rfl]at cU
  obtain⟨hU0,hUR,hUb⟩:=uh HQ
  obtain⟨hUl,hUh0⟩:=hUb hb
  have hUh:=zh hUh0
  clear hUb hUh0
  have hUM:=(uh HVM).2.2 hb
  go_wp2
  refine wp_loop_rounds 2 ?_
  rw[rounds_succ]
  go_wp2_with fail
  refine wp_region_noPanic ?_
  refine wp_region_held_drew (S:=(fun w'=>w'.cell? ⟨R,13,none⟩=some (.slice (some ⟨Q,0,none⟩) 1 1))) (by kernel_rfl) (by simpa using cU) (fun hHeld=>?_)
  refine rtk 0 (h:=?_)
  refine rtk 1 (h:=?_)
  refine rtk 2 (h:=?_)
  refine rtk 3 (h:=?_)
  refine rtk 4 (h:=?_)
  refine rtk 5 (h:=?_)
  refine rcl 6 (h:=fun K hK=>?_)
  go_simp
  refine (bin_any R stu w0 _ ((uh HS13).below (bel_drew we))).mono ?_
  rintro e w20 ⟨t,stp,rfl,-,hs20,h20,hx20⟩
  have hxw:BX R isRE we w20:=(BX.of_below (bel_drew we) (uh HS13).lt).trans hx20
  have hcU:w20.cell? ⟨R,13,none⟩=some (.slice (some ⟨Q,0,none⟩) 1 1):=(hxw.cell 13 (by unfold isRE;omega)).trans cU
  have b20:w20.heap[Q]?=some strO:=(hxw.block Q hUl hUR).trans (uh hUh)
  have v0:w20.cell? ⟨Q,0,none⟩=some (.string ⟨#[]⟩):=by simp[World.cell?,b20]
  have g0:w20.frozen? ⟨Q,0,none⟩=false:=by simp[World.frozen?,b20]
  have BU:Hid ((w20.setCell ⟨Q,0,none⟩ (.string t)).heap[Q]?=some (.cells #[.string t] 9)):=by
   have k:=heap_set (j:=0) (u:=.string t) b20
   show _=_
   simpa using k
  have HS20:Hid (RS w0 (w20.setCell ⟨Q,0,none⟩ (.string t)) R stp):=h20.setOut Q 0 _ hUR (Nat.le_trans h0w hU0) (fun t y e=>by simp[World.cell?,b20]at e)
  have HX20:Hid (BX R isAny w (w20.setCell ⟨Q,0,none⟩ (.string t))):=((uh HX13).trans hxw.any).setOut Q 0 _ (Nat.le_trans hsz4 hU0) hlt
  have HT20:Hid ((w20.setCell ⟨Q,0,none⟩ (.string t)).ownsRow M 109 4 tp.val pr.length (pcs pr)):=owns_out (owns_bx (uh HO13) hxw (Nat.lt_of_lt_of_le hlt hM0)) hUM
  have HP20:Hid (Pk (w20.setCell ⟨Q,0,none⟩ (.string t)) R { p with clean:=btest x 2,wills:=isW V (btest x 4),user:=isW U (btest x 128),pass:=isW Q (btest x 64),keep:=k,props:=tp,client:=c }):=pk_out ((uh HP13).bx hxw) hUR
  have HW20:Hid (WillAt w4.heap.size w9.heap.size R (w20.setCell ⟨Q,0,none⟩ (.string t)) x V wl):=((uh HWL).bx hxw hlt9).out (fun h=>(uh HNE).2.1 h hb) (Nat.lt_of_lt_of_le hUM hM9)
  have HN20:w9.heap.size<=(w20.setCell ⟨Q,0,none⟩ (.string t)).heap.size:=Nat.le_trans hN13 (by simpa [World.setCell] using hxw.size)
  have hl20:Q < (w20.setCell ⟨Q,0,none⟩ (.string t)).heap.size:=Nat.lt_of_lt_of_le hUl (by simpa [World.setCell] using hxw.size)
  have HST20:Hid (Stp (pass? x) stu (some t) stp):=by
   show Stp _ _ _ _
   unfold pass?
   rw[hb,if_pos rfl]
   exact hs20.bind (Stp.pure _ _)
  have H2U:Hid (StrAt w4.heap.size R (w20.setCell ⟨Q,0,none⟩ (.string t)) (btest x 128) U us):=((uh HDU).bx hxw).out (fun h=>(uh HNE).2.2 h hb)
  have hcS:(w20.setCell ⟨Q,0,none⟩ (.string t)).cell? ⟨R,13,none⟩=some (.slice (some ⟨Q,0,none⟩) 1 1):=(World.cell?_setCell_other _ _ _ _ (fun e=>by injection e with e1 _;exact hUR e1)).trans hcU
  clear hs20 h20 hx20 hxw
  refine hK.out _ _ (by exact hcU) (fun hHeld=>?_)
  clear hK K
  refine rtk 7 (h:=?_)
  refine rcl 8 (h:=fun K hK=>?_)
  go_simp
  refine hK.out _ _ (by exact hcS) (fun hHeld=>?_)
  clear hK K
  refine wpAnyH_done (by kernel_rfl) ?_ _
  refine NoPanic.normal ?_
  clear cU hcU v0 g0 b20 hcS hHeld
  go_wp2
  rw[rounds_succ]
  go_wp2
  go_end0
  exact⟨rfl,⟨x,k,pr,c,wl,us,(some t)⟩,V,U,Q,w9.heap.size,tp,_,uh HP20,owns_mono (uh HT20) hM0,Nat.le_trans hsz4 hs49,(uh HW20).base hsz4,(uh H2U).base hsz4,⟨(fun h=>by rw[hb]at h;cases h),fun _=>⟨t,rfl,Nat.le_trans hsz4 hU0,hUR,hl20,uh BU⟩⟩,(uh HST8) _ _ _ _ _ _ (uh HST9) (uh HSTu) (uh HST20),uh HS20,uh HX20⟩
end Go.Proofs.YtpheelbbpiieiaaGreatDoor.K
