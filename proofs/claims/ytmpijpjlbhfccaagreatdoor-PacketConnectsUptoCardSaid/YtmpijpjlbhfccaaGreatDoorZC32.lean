/- Helpers of the proof. -/
import Derived.Deep.Cut
import Derived.Deep.CutBlock
import Derived.Deep.RegionHeld3
import Derived.Test.YtmpijpjlbhfccaaGreatDoorZC31
import Derived.Test.YtmpijpjlbhfccaaGreatDoorZC6
set_option maxHeartbeats 20000000
namespace Go.Proofs.YtmpijpjlbhfccaaGreatDoor.K.W
open Go.RowKit
open Go.Proofs.YtmpijpjlbhfccaaGreatDoor.K
set_option maxRecDepth 100000
theorem bnk {w a b:World} (h:Below w.heap.size w a) (h2:Below a.heap.size a b):Below w.heap.size w b:=h.trans (h2.mono h.size)
theorem wr (x:Int) (h:-9223372036854775808<=x/\x<=9223372036854775807):IntKind.i64.wrap x=x:=by
 rw[IntKind.wrap_i64];omega
theorem sum3 (m a b r:Int) (h0:0<=m/\m<=1000000000000) (h1:0<=a/\a<=3000000000) (h2:0<=b/\b<=3000000000) (h3:0<=r/\r<=3000000000):IntKind.i64.wrap (IntKind.i64.wrap (IntKind.i64.wrap (m+a)+b)+r)=m+a+b+r:=by
 rw[wr (m+a) (by omega),wr (m+a+b) (by omega),wr (m+a+b+r) (by omega)]
theorem sum10 (a b c r d e f g h i:Int) (h0:0<=a/\a<=3000000000) (h1:0<=b/\b<=3000000000) (h2:0<=c/\c<=3000000000) (h3:0<=r/\r<=3000000000) (h4:0<=d/\d<=3000000000) (h5:0<=e/\e<=3000000000) (h6:0<=f/\f<=3000000000) (h7:0<=g/\g<=3000000000) (h8:0<=h/\h<=3000000000) (h9:0<=i/\i<=3000000000) :
  IntKind.i64.wrap (IntKind.i64.wrap (IntKind.i64.wrap (IntKind.i64.wrap (IntKind.i64.wrap (IntKind.i64.wrap (IntKind.i64.wrap (IntKind.i64.wrap (IntKind.i64.wrap (a+b)+c)+r)+d)+IntKind.i64.wrap (10*e))+IntKind.i64.wrap (10*f))+IntKind.i64.wrap (10*g))+IntKind.i64.wrap (10*h))+IntKind.i64.wrap (10*i))=a+b+c+r+d+10*e+10*f+10*g+10*h+10*i:=by
 rw[wr (10*e) (by omega),wr (10*f) (by omega),wr (10*g) (by omega),wr (10*h) (by omega),wr (10*i) (by omega),wr (a+b) (by omega),wr (a+b+c) (by omega),wr (a+b+c+r) (by omega),wr (a+b+c+r+d) (by omega),wr (a+b+c+r+d+10*e) (by omega),wr (a+b+c+r+d+10*e+10*f) (by omega),wr (a+b+c+r+d+10*e+10*f+10*g) (by omega),wr (a+b+c+r+d+10*e+10*f+10*g+10*h) (by omega),wr (a+b+c+r+d+10*e+10*f+10*g+10*h+10*i) (by omega)]
def UbP (l:List Pr):Prop:=l.length<=1048576/\∀ k,k<l.length->(at0 l k).2.2.1.size<=1048576/\(at0 l k).2.2.2.size<=1048576
def UbT (l:List ByteArray):Prop:=l.length<=1048576/\∀ k,k<l.length->(l.getD k ⟨#[]⟩).size<=1048576
structure Ub (P:Pa):Prop where
 texts:P.topic.size<=1048576/\P.payload.size<=1048576/\P.client.size<=1048576
 props:UbP P.props
 wills:P.wills.length<=1048576/\∀ k,k<P.wills.length->(P.wills.getD k wl0).topic.size<=1048576/\(P.wills.getD k wl0).payload.size<=1048576/\UbP (P.wills.getD k wl0).props
 user:UbT P.user
 pass:UbT P.pass
 subs:P.subs.length<=1048576/\∀ k,k<P.subs.length->(P.subs.getD k sb0).filter.size<=1048576
 filters:UbT P.filters
 codes:P.codes.length<=1048576
theorem pw_core (b off cap:Nat) (l:List Pr) (len:Nat) (w:World) (hlen:l.length=len) (hl:PrAt w b off l) (hu:UbP l) :
  Calls Tryz.prog 43 #[.slice (some ⟨b,off,none⟩) len cap] w fun e w'=>∃ r:Int,e=.returned (.int .i64 r)/\0<=r/\r<=3000000000/\Below w.heap.size w w':=by
 have hmx:len<=1048576:=hlen ▸ hu.1
 have HL:=zh hl
 have HLEN:=zh hlen
 have HU:=zh hu
 clear hl hlen hu
 go_enter Tryz.func43,Tryz.ntmps43
 go_wp2
 go_loopw [3,4] (fun n i wr=>∃ (k q:Nat) (z:Int),k<=len/\k<=1000/\i=.int .i64 k/\n=.int .i64 z/\0<=z/\z<=1048576+k*2097152/\wr=w.drewN q) (fun _ i _=>1000-(intOf i).toNat)
 case atStart=>exact⟨0,0,len,Nat.zero_le _,by omega,rfl,rfl,by omega,by omega,rfl⟩
 case round =>
  obtain⟨k,q,z,hk,hk1,rfl,rfl,hz1,hz2,rfl⟩:=hrel
  by_cases hlt:k<len/\k<1000
  ·obtain⟨hlt,hlt1⟩:=hlt
   obtain⟨-,-,h2,h3⟩:=(uh HL) k (by rw[uh HLEN];exact hlt)
   obtain⟨hs1,hs2⟩:=(uh HU).2 k (by rw[uh HLEN];exact hlt)
   generalize at0 l k=p at h2 h3 hs1 hs2
   obtain⟨id,n,s,t⟩:=p
   simp only at h2 h3 hs1 hs2
   go_wp2
   go_quiet (fail)
   go_wp2
   go_roundw
   case rel=>exact⟨k+1,_,z+s.size+t.size,by omega,by omega,by go_num,by go_num,by omega,by omega,rfl⟩
   case measure=>simp[intOf];omega
  ·by_cases hlt1:k<len
   ·obtain rfl:k=1000:=by omega
    go_wp2
    go_ret
    exact⟨_,rfl,hz1,by omega,below_drewN (Below.refl _ _) q⟩
   ·go_wp2
    go_ret
    exact⟨_,rfl,hz1,by omega,below_drewN (Below.refl _ _) q⟩
theorem pw_any (v:Value) (l:List Pr) (w:World) (h:Prp w v l) (hu:UbP l):Calls Tryz.prog 43 #[v] w fun e w'=>∃ r:Int,e=.returned (.int .i64 r)/\0<=r/\r<=3000000000/\Below w.heap.size w w':=by
 obtain⟨ao,cap,rfl,rfl|⟨b,off,rfl,hc⟩⟩:=h
 ·clear hu
  go_enter Tryz.func43,Tryz.ntmps43
  go_wp2
  refine wp_loop_rounds 1 ?_
  rw[rounds_succ]
  go_wp2
  go_ret
  exact⟨_,rfl,by decide,by decide,Below.refl _ _⟩
 ·exact pw_core b off cap l _ w rfl hc hu
def WtPost (P:Pa) (w:World) (e:Ending) (w':World):Prop:=∃ N:Int,e=.returned (.int .i64 N)/\(10*(P.user.length:Int)+10*P.pass.length+10*P.filters.length+P.codes.length+P.payload.size)<=N/\N<=1000000000000/\Below w.heap.size w w'
theorem wt_any (q:Pkv) (P:Pa) (w:World) (hR:RPk w q P) (hU:Ub P):Calls Tryz.prog 21 #[q.val] w (WtPost P w):=by
 have HR:=zh hR
 have HU:=zh hU
 obtain⟨-,-,-,-,k4,-,k6,k8,-⟩:=hR.sc
 obtain⟨n7,n11,n12,n13,n16,n17,n18⟩:=hR.cnt.ns
 have t4:q.topic.size<=1048576:=by rw[k4];exact hU.texts.1
 have t6:q.payload.size<=1048576:=by rw[k6];exact hU.texts.2.1
 have t8:q.client.size<=1048576:=by rw[k8];exact hU.texts.2.2
 have m7:q.props.n<=1048576:=by rw[n7];exact hU.props.1
 have m11:q.wills.n<=1048576:=by rw[n11];exact hU.wills.1
 have m12:q.user.n<=1048576:=by rw[n12];exact hU.user.1
 have m13:q.pass.n<=1048576:=by rw[n13];exact hU.pass.1
 have m16:q.subs.n<=1048576:=by rw[n16];exact hU.subs.1
 have m17:q.filters.n<=1048576:=by rw[n17];exact hU.filters.1
 have m18:q.codes.n<=1048576:=by rw[n18];exact hU.codes
 have HLL:Hid ((10*(P.user.length:Int)+10*P.pass.length+10*P.filters.length+P.codes.length+P.payload.size)=10*(q.user.n:Int)+10*q.pass.n+10*q.filters.n+q.codes.n+q.payload.size):=by show _=_;rw[n12,n13,n17,n18,k6]
 have HBA:Hid (Below w.heap.size w (w.alloc (.cells q.cells.toArray 31))):=bal _ _
 have HP:=zh (pk_new w q)
 clear hR hU k4 k6 k8 n7 n11 n12 n13 n16 n17 n18
 show Calls _ _ _ _ (WtPost P w)
 unfold WtPost
 have hL0:0<=(10*(P.user.length:Int)+10*P.pass.length+10*P.filters.length+P.codes.length+P.payload.size):=by omega
 generalize (10*(P.user.length:Int)+10*P.pass.length+10*P.filters.length+P.codes.length+P.payload.size)=L at HLL hL0 |-
 go_enter Tryz.func21,Tryz.ntmps21
 go_upto_region 1 with fail
 change Code.wp _ _ _ _ (w.alloc (.cells q.cells.toArray 31))
 generalize w.alloc (.cells q.cells.toArray 31)=wa at HBA HP |-
 generalize hBB:w.heap.size=B at HP |-
 have HBB:=zh hBB
 clear hBB
 have HK:Hid (∀ W:World,Below wa.heap.size wa W->W.cell? ⟨B,4,none⟩=some (.string q.topic)/\W.cell? ⟨B,6,none⟩=some (.string q.payload)/\W.cell? ⟨B,8,none⟩=some (.string q.client)/\W.cell? ⟨B,7,none⟩=some (q.props.val)/\W.cell? ⟨B,18,none⟩=some (q.codes.val)/\W.cell? ⟨B,11,none⟩=some (q.wills.val)/\W.cell? ⟨B,16,none⟩=some (q.subs.val)/\W.cell? ⟨B,17,none⟩=some (q.filters.val)/\W.cell? ⟨B,12,none⟩=some (q.user.val)/\W.cell? ⟨B,13,none⟩=some (q.pass.val)):=fun W hW=>by
  have k:=(uh HP).below hW
  exact⟨k.topic,k.payload,k.client,k.props,k.codes,k.wills,k.subs,k.filters,k.user,k.pass⟩
 refine wp_region_noPanic ?_
 refine wp_region_held_drew (S:=(fun w'=>w'.cell? ⟨B,4,none⟩=some (.string q.topic)/\w'.cell? ⟨B,6,none⟩=some (.string q.payload)/\w'.cell? ⟨B,8,none⟩=some (.string q.client)/\w'.cell? ⟨B,7,none⟩=some (q.props.val)/\w'.cell? ⟨B,18,none⟩=some (q.codes.val)/\w'.cell? ⟨B,11,none⟩=some (q.wills.val)/\w'.cell? ⟨B,16,none⟩=some (q.subs.val)/\w'.cell? ⟨B,17,none⟩=some (q.filters.val)/\w'.cell? ⟨B,12,none⟩=some (q.user.val)/\w'.cell? ⟨B,13,none⟩=some (q.pass.val))) (by kernel_rfl) ((uh HK) _ (below_drewN (Below.refl _ _) 1)) (fun hHeld=>?_)
 refine rtk 0 (h:=?_)
 refine rtk 1 (h:=?_)
 refine rtk 2 (h:=?_)
 refine rtk 3 (h:=?_)
 refine rtk 4 (h:=?_)
 refine rtk 5 (h:=?_)
 refine rtk 6 (h:=?_)
 refine rtk 7 (h:=?_)
 refine rtk 8 (h:=?_)
 refine rtk 9 (h:=?_)
 refine rtk 10 (h:=?_)
 refine rtk 11 (h:=?_)
 refine rtk 12 (h:=?_)
 refine rtk 15 (h:=?_)
 refine rtk 16 (h:=?_)
 refine rtk 17 (h:=?_)
 refine rtk 19 (h:=?_)
 refine rtk 20 (h:=?_)
 refine rtk 21 (h:=?_)
 refine rtk 22 (h:=?_)
 refine rtk 24 (h:=?_)
 refine rtk 25 (h:=?_)
 refine rtk 26 (h:=?_)
 refine rtk 27 (h:=?_)
 refine rtk 29 (h:=?_)
 refine rtk 30 (h:=?_)
 refine rtk 31 (h:=?_)
 refine rtk 32 (h:=?_)
 refine rtk 34 (h:=?_)
 refine rtk 35 (h:=?_)
 refine rtk 36 (h:=?_)
 refine rtk 37 (h:=?_)
 refine rtk 39 (h:=?_)
 refine rtk 40 (h:=?_)
 refine rtk 41 (h:=?_)
 refine rtk 42 (h:=?_)
 refine rcl 13 (h:=fun K hK=>?_)
 go_simp
 refine (pw_any _ P.props _ (((uh HR).below (bnk (uh HBA) (below_drewN (Below.refl _ _) 1))).props) (uh HU).props).mono ?_
 rintro e w2 ⟨r2,rfl,hr2,hr3,hb2⟩
 have HB2:=zh (bnk (below_drewN (Below.refl _ _) 1) hb2)
 clear hb2
 refine hK.out _ _ ((uh HK) _ (uh HB2)) (fun hHeld=>?_)
 clear hK K
 refine rtk 14 (h:=?_)
 refine rtk 18 (h:=?_)
 refine rtk 23 (h:=?_)
 refine rtk 28 (h:=?_)
 refine rtk 33 (h:=?_)
 refine rtk 38 (h:=?_)
 refine rtk 43 (h:=?_)
 refine rcl 44 (h:=fun K hK=>?_)
 go_simp
 refine hK.out _ _ ((uh HK) _ (uh HB2)) (fun hHeld=>?_)
 clear hK K
 refine wpAnyH_done (by kernel_rfl) ?_ _
 refine NoPanic.normal ?_
 go_upto_block 0 with fail
 go_cut [3] from 9 (fun s3 wx=>∃ N:Int,s3=.int .i64 N/\L<=N/\N<=410000000000/\Hid (Below wa.heap.size wa wx))
 case first =>
  have c11:=((uh HP).below (uh HB2)).wills
  have HLS:=zh ((uh HR).below (bnk (uh HBA) (uh HB2))).wills
  obtain⟨lao,wc0,hlv,-,hlc⟩:=uh HLS
  rw[hlv]at c11
  have HUF:=zh (uh HU).wills
  generalize hln:P.wills.length=nw at c11
  have HLN:=zh hln
  have HLC:=zh hlc
  have hlb:nw<=1048576:=by rw[<- hln];exact (uh HUF).1
  clear hln hlc hlv HLS
  go_wp2
  go_loopw [3,4] (fun n i wr=>∃ (k:Nat) (N:Int),n=.int .i64 N/\i=.int .i64 k/\k<=nw/\k<=100/\L<=N/\N<=10000000000+k*4000000000/\Hid (Below w2.heap.size w2 wr)) (fun _ i _=>100-(intOf i).toNat)
  case atStart=>exact⟨0,_,rfl,rfl,Nat.zero_le _,by omega,by have:=uh HLL;rw[sum10 _ _ _ _ _ _ _ _ _ _ (by omega) (by omega) (by omega) (by omega) (by omega) (by omega) (by omega) (by omega) (by omega) (by omega)];omega,by rw[sum10 _ _ _ _ _ _ _ _ _ _ (by omega) (by omega) (by omega) (by omega) (by omega) (by omega) (by omega) (by omega) (by omega) (by omega)];omega,Below.refl _ _⟩
  case round =>
   obtain⟨k,M,rfl,rfl,hk,hk1,hM1,hM2,HBEL⟩:=hrel
   have x11:=((uh HBEL).cell (cell_lt c11)).trans c11
   by_cases hlt:k<nw
   ·by_cases hlt1:k<100
    ·rcases uh HLC with h0|⟨lb,lo,rfl,hat⟩
     ·exfalso
      have:=uh HLN
      rw[h0]at this
      simp at this
      omega
     have hkl:k<P.wills.length:=by rw[uh HLN];exact hlt
     have hu:=(hat k hkl).below (uh HBEL)
     have hsz:=(uh HUF).2 k hkl
     generalize P.wills.getD k wl0=u at hu hsz
     obtain⟨ao,n,c,⟨y0,y1,-,-,y4⟩,hpu,-⟩:=hu
     obtain⟨hs0,hs1,hs2⟩:=hsz
     have HPU:=zh hpu
     have HUU:=zh hs2
     have HK5:Hid (∀ W:World,Below wr.heap.size wr W->W.cell? ⟨B,11,none⟩=some (.slice (some ⟨lb,lo,none⟩) nw wc0)/\W.cell? ⟨lb,lo+k*5,none⟩=some (.string u.topic)/\W.cell? ⟨lb,lo+k*5+1,none⟩=some (.string u.payload)/\W.cell? ⟨lb,lo+k*5+4,none⟩=some (.slice ao n c)):=fun W hW=>⟨(hW.cell (cell_lt x11)).trans x11,(hW.cell (cell_lt y0)).trans y0,(hW.cell (cell_lt y1)).trans y1,(hW.cell (cell_lt y4)).trans y4⟩
     clear hat hpu hs2 y0 y1 y4
     go_wp2_with fail
     refine wp_region_noPanic ?_
     refine wp_region_held_drew (S:=(fun w'=>w'.cell? ⟨B,11,none⟩=some (.slice (some ⟨lb,lo,none⟩) nw wc0)/\w'.cell? ⟨lb,lo+k*5,none⟩=some (.string u.topic)/\w'.cell? ⟨lb,lo+k*5+1,none⟩=some (.string u.payload)/\w'.cell? ⟨lb,lo+k*5+4,none⟩=some (.slice ao n c))) (by kernel_rfl) ((uh HK5) _ (below_drewN (Below.refl _ _) 1)) (fun hHeld=>?_)
     refine rtk 0 (h:=?_)
     refine rtk 1 (h:=?_)
     refine rtk 2 (h:=?_)
     refine rtk 3 (h:=?_)
     refine rtk 4 (h:=?_)
     refine rtk 5 (h:=?_)
     refine rtk 6 (h:=?_)
     refine rtk 7 (h:=?_)
     refine rtk 8 (h:=?_)
     refine rtk 9 (h:=?_)
     refine rtk 10 (h:=?_)
     refine rtk 11 (h:=?_)
     refine rtk 12 (h:=?_)
     refine rtk 13 (h:=?_)
     refine rtk 14 (h:=?_)
     refine rtk 15 (h:=?_)
     refine rtk 16 (h:=?_)
     refine rtk 17 (h:=?_)
     refine rtk 18 (h:=?_)
     refine rtk 19 (h:=?_)
     refine rtk 20 (h:=?_)
     refine rtk 21 (h:=?_)
     refine rtk 22 (h:=?_)
     refine rcl 23 (h:=fun K hK=>?_)
     go_simp
     refine (pw_any _ u.props _ ((uh HPU).below (below_drewN (Below.refl _ _) 1)) (uh HUU)).mono ?_
     rintro e w5 ⟨r5,rfl,hr5,hr6,hb5⟩
     have HB5:=zh (bnk (below_drewN (Below.refl _ _) 1) hb5)
     clear hb5
     refine hK.out _ _ ((uh HK5) _ (uh HB5)) (fun hHeld=>?_)
     clear hK K
     refine rtk 24 (h:=?_)
     refine rcl 25 (h:=fun K hK=>?_)
     go_simp
     refine hK.out _ _ ((uh HK5) _ (uh HB5)) (fun hHeld=>?_)
     clear hK K
     refine wpAnyH_done (by kernel_rfl) ?_ _
     refine NoPanic.normal ?_
     have HBE2:Hid (Below w2.heap.size w2 w5):=bnk (uh HBEL) (uh HB5)
     go_wp2
     go_roundw
     case rel=>exact⟨k+1,_,rfl,by go_num,by omega,by omega,by rw[sum3 _ _ _ _ (by omega) (by omega) (by omega) (by omega)];omega,by rw[sum3 _ _ _ _ (by omega) (by omega) (by omega) (by omega)];omega,HBE2⟩
     case measure=>simp[intOf];omega
    ·obtain rfl:k=100:=by omega
     go_wp2
     go_meet
     case rel=>exact⟨M,rfl,hM1,by omega,bnk (uh HB2) (uh HBEL)⟩
   ·obtain rfl:k=nw:=by omega
    go_wp2
    go_meet
    case rel=>exact⟨M,rfl,hM1,by omega,bnk (uh HB2) (uh HBEL)⟩
 case rest =>
  obtain⟨N,rfl,hN1,hN2,HBX⟩:=hcut
  go_upto_block 2 with fail
  go_cut [3] from 9 (fun s3 wx=>∃ N:Int,s3=.int .i64 N/\L<=N/\N<=410110000000/\Hid (Below wa.heap.size wa wx))
  case first =>
   have HPK:=zh ((uh HP).below (uh HBX))
   have c16:=(uh HPK).subs
   have HLS:=zh ((uh HR).below (bnk (uh HBA) (uh HBX))).subs
   obtain⟨lao,lcap,hlv,-,hlc⟩:=uh HLS
   rw[hlv]at c16
   have HUF:=zh (uh HU).subs
   generalize hln:P.subs.length=ln at c16
   have HLN:=zh hln
   have HLC:=zh hlc
   have hlb:ln<=1048576:=by rw[<- hln];exact (uh HUF).1
   clear hln hlc hlv HLS
   go_wp2
   go_loopw [3,5] (fun n i wr=>∃ (k:Nat) (N:Int),n=.int .i64 N/\i=.int .i64 k/\k<=ln/\k<=100/\L<=N/\N<=410000000000+k*1048576/\wr=wc) (fun _ i _=>100-(intOf i).toNat)
   case atStart=>exact⟨0,N,rfl,rfl,Nat.zero_le _,by omega,hN1,by omega,rfl⟩
   case round =>
    obtain⟨k,M,rfl,rfl,hk,hk1,hM1,hM2,hw⟩:=hrel
    obtain rfl:=hw.symm
    clear hw
    by_cases hlt:k<ln
    ·by_cases hlt1:k<100
     ·rcases uh HLC with h0|⟨lb,lo,rfl,hat⟩
      ·exfalso
       have:=uh HLN
       rw[h0]at this
       simp at this
       omega
      have hkl:k<P.subs.length:=by rw[uh HLN];exact hlt
      have ck:=(hat k hkl).1
      have hsz:=(uh HUF).2 k hkl
      generalize (P.subs.getD k sb0).filter=sx at ck hsz
      clear hat
      go_wp2
      go_roundw
      case rel=>exact⟨k+1,_,rfl,by go_num,by omega,by omega,by first|omega|(rw[wr _ (by omega)];omega),by first|omega|(rw[wr _ (by omega)];omega),by first|trivial|rfl⟩
      case measure=>simp[intOf];omega
     ·obtain rfl:k=100:=by omega
      go_wp2
      go_meet
      case rel=>exact⟨M,rfl,hM1,by omega,HBX⟩
    ·obtain rfl:k=ln:=by omega
     go_wp2
     go_meet
     case rel=>exact⟨M,rfl,hM1,by omega,HBX⟩
  case rest =>
   obtain⟨N,rfl,hN1,hN2,HBX⟩:=hcut
   go_upto_block 4 with fail
   go_cut [3] from 9 (fun s3 wx=>∃ N:Int,s3=.int .i64 N/\L<=N/\N<=410220000000/\Hid (Below wa.heap.size wa wx))
   case first =>
    have HPK:=zh ((uh HP).below (uh HBX))
    have c17:=(uh HPK).filters
    have HLS:=zh ((uh HR).below (bnk (uh HBA) (uh HBX))).filters
    obtain⟨lao,lcap,hlv,-,hlc⟩:=uh HLS
    rw[hlv]at c17
    have HUF:=zh (uh HU).filters
    generalize hln:P.filters.length=ln at c17
    have HLN:=zh hln
    have HLC:=zh hlc
    have hlb:ln<=1048576:=by rw[<- hln];exact (uh HUF).1
    clear hln hlc hlv HLS
    go_wp2
    go_loopw [3,6] (fun n i wr=>∃ (k:Nat) (N:Int),n=.int .i64 N/\i=.int .i64 k/\k<=ln/\k<=100/\L<=N/\N<=410110000000+k*1048576/\wr=wc) (fun _ i _=>100-(intOf i).toNat)
    case atStart=>exact⟨0,N,rfl,rfl,Nat.zero_le _,by omega,hN1,by omega,rfl⟩
    case round =>
     obtain⟨k,M,rfl,rfl,hk,hk1,hM1,hM2,hw⟩:=hrel
     obtain rfl:=hw.symm
     clear hw
     by_cases hlt:k<ln
     ·by_cases hlt1:k<100
      ·rcases uh HLC with h0|⟨lb,lo,rfl,hat⟩
       ·exfalso
        have:=uh HLN
        rw[h0]at this
        simp at this
        omega
       have hkl:k<P.filters.length:=by rw[uh HLN];exact hlt
       have ck:=hat k hkl
       have hsz:=(uh HUF).2 k hkl
       generalize P.filters.getD k ⟨#[]⟩=sx at ck hsz
       clear hat
       go_wp2
       go_roundw
       case rel=>exact⟨k+1,_,rfl,by go_num,by omega,by omega,by first|omega|(rw[wr _ (by omega)];omega),by first|omega|(rw[wr _ (by omega)];omega),by first|trivial|rfl⟩
       case measure=>simp[intOf];omega
      ·obtain rfl:k=100:=by omega
       go_wp2
       go_meet
       case rel=>exact⟨M,rfl,hM1,by omega,HBX⟩
     ·obtain rfl:k=ln:=by omega
      go_wp2
      go_meet
      case rel=>exact⟨M,rfl,hM1,by omega,HBX⟩
   case rest =>
    obtain⟨N,rfl,hN1,hN2,HBX⟩:=hcut
    go_upto_block 6 with fail
    go_cut [3] from 9 (fun s3 wx=>∃ N:Int,s3=.int .i64 N/\L<=N/\N<=410330000000/\Hid (Below wa.heap.size wa wx))
    case first =>
     have HPK:=zh ((uh HP).below (uh HBX))
     have c12:=(uh HPK).user
     have HLS:=zh ((uh HR).below (bnk (uh HBA) (uh HBX))).user
     obtain⟨lao,lcap,hlv,-,hlc⟩:=uh HLS
     rw[hlv]at c12
     have HUF:=zh (uh HU).user
     generalize hln:P.user.length=ln at c12
     have HLN:=zh hln
     have HLC:=zh hlc
     have hlb:ln<=1048576:=by rw[<- hln];exact (uh HUF).1
     clear hln hlc hlv HLS
     go_wp2
     go_loopw [3,7] (fun n i wr=>∃ (k:Nat) (N:Int),n=.int .i64 N/\i=.int .i64 k/\k<=ln/\k<=100/\L<=N/\N<=410220000000+k*1048576/\wr=wc) (fun _ i _=>100-(intOf i).toNat)
     case atStart=>exact⟨0,N,rfl,rfl,Nat.zero_le _,by omega,hN1,by omega,rfl⟩
     case round =>
      obtain⟨k,M,rfl,rfl,hk,hk1,hM1,hM2,hw⟩:=hrel
      obtain rfl:=hw.symm
      clear hw
      by_cases hlt:k<ln
      ·by_cases hlt1:k<100
       ·rcases uh HLC with h0|⟨lb,lo,rfl,hat⟩
        ·exfalso
         have:=uh HLN
         rw[h0]at this
         simp at this
         omega
        have hkl:k<P.user.length:=by rw[uh HLN];exact hlt
        have ck:=hat k hkl
        have hsz:=(uh HUF).2 k hkl
        generalize P.user.getD k ⟨#[]⟩=sx at ck hsz
        clear hat
        go_wp2
        go_roundw
        case rel=>exact⟨k+1,_,rfl,by go_num,by omega,by omega,by first|omega|(rw[wr _ (by omega)];omega),by first|omega|(rw[wr _ (by omega)];omega),by first|trivial|rfl⟩
        case measure=>simp[intOf];omega
       ·obtain rfl:k=100:=by omega
        go_wp2
        go_meet
        case rel=>exact⟨M,rfl,hM1,by omega,HBX⟩
      ·obtain rfl:k=ln:=by omega
       go_wp2
       go_meet
       case rel=>exact⟨M,rfl,hM1,by omega,HBX⟩
    case rest =>
     obtain⟨N,rfl,hN1,hN2,HBX⟩:=hcut
     go_upto_block 8 with fail
     go_cut [3] from 9 (fun s3 wx=>∃ N:Int,s3=.int .i64 N/\L<=N/\N<=410440000000/\Hid (Below wa.heap.size wa wx))
     case first =>
      have HPK:=zh ((uh HP).below (uh HBX))
      have c13:=(uh HPK).pass
      have HLS:=zh ((uh HR).below (bnk (uh HBA) (uh HBX))).pass
      obtain⟨lao,lcap,hlv,-,hlc⟩:=uh HLS
      rw[hlv]at c13
      have HUF:=zh (uh HU).pass
      generalize hln:P.pass.length=ln at c13
      have HLN:=zh hln
      have HLC:=zh hlc
      have hlb:ln<=1048576:=by rw[<- hln];exact (uh HUF).1
      clear hln hlc hlv HLS
      go_wp2
      go_loopw [3,8] (fun n i wr=>∃ (k:Nat) (N:Int),n=.int .i64 N/\i=.int .i64 k/\k<=ln/\k<=100/\L<=N/\N<=410330000000+k*1048576/\wr=wc) (fun _ i _=>100-(intOf i).toNat)
      case atStart=>exact⟨0,N,rfl,rfl,Nat.zero_le _,by omega,hN1,by omega,rfl⟩
      case round =>
       obtain⟨k,M,rfl,rfl,hk,hk1,hM1,hM2,hw⟩:=hrel
       obtain rfl:=hw.symm
       clear hw
       by_cases hlt:k<ln
       ·by_cases hlt1:k<100
        ·rcases uh HLC with h0|⟨lb,lo,rfl,hat⟩
         ·exfalso
          have:=uh HLN
          rw[h0]at this
          simp at this
          omega
         have hkl:k<P.pass.length:=by rw[uh HLN];exact hlt
         have ck:=hat k hkl
         have hsz:=(uh HUF).2 k hkl
         generalize P.pass.getD k ⟨#[]⟩=sx at ck hsz
         clear hat
         go_wp2
         go_roundw
         case rel=>exact⟨k+1,_,rfl,by go_num,by omega,by omega,by first|omega|(rw[wr _ (by omega)];omega),by first|omega|(rw[wr _ (by omega)];omega),by first|trivial|rfl⟩
         case measure=>simp[intOf];omega
        ·obtain rfl:k=100:=by omega
         go_wp2
         go_meet
         case rel=>exact⟨M,rfl,hM1,by omega,HBX⟩
       ·obtain rfl:k=ln:=by omega
        go_wp2
        go_meet
        case rel=>exact⟨M,rfl,hM1,by omega,HBX⟩
     case rest =>
      obtain⟨N,rfl,hN1,hN2,HBX⟩:=hcut
      go_wp2
      go_ret
      exact⟨N,rfl,hN1,by omega,bnk (uh HBA) (uh HBX)⟩
end Go.Proofs.YtmpijpjlbhfccaaGreatDoor.K.W
