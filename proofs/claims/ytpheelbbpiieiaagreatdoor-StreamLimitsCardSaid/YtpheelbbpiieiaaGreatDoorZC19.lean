/- Proved here: helpers, one text behind the other. -/
import Derived.Test.YtpheelbbpiieiaaGreatDoorZC5
import Derived.Test.YtpheelbbpiieiaaGreatDoorZC18
import Derived.Laws.AppendOwn
import Derived.Test.YtpheelbbpiieiaaGreatDoorZC17
set_option maxHeartbeats 20000000
namespace Go.Proofs.YtpheelbbpiieiaaGreatDoor.K
open Go.RowKit
set_option maxRecDepth 100000
def ConnPost (w0:World) (R:Nat) (p:Pkv) (st:Option (List Int)) (w:World) (e:Ending) (w':World):Prop :=
 e=.returned (.tuple #[])/\∃ (n:Cn) (V U Q N:Nat) (tp:Sl) (st':Option (List Int)),Pk w' R { p with clean:=btest n.x 2,wills:=isW V (btest n.x 4),user:=isW U (btest n.x 128),pass:=isW Q (btest n.x 64),keep:=n.keep,props:=tp,client:=n.client }/\Hid (w'.ownsRow w.heap.size 109 4 tp.val n.props.length (pcs n.props))/\w.heap.size<=N/\Hid (WillAt w.heap.size N R w' n.x V n.will)/\Hid (StrAt w.heap.size R w' (btest n.x 128) U n.user)/\Hid (StrAt w.heap.size R w' (btest n.x 64) Q n.pass)/\Stp connect? st n st'/\RS w0 w' R st'/\BX R isAny w w'
theorem connect_any (R:Nat) (p:Pkv) (st:Option (List Int)) (w0 w:World) (h:RS w0 w R st) (hp:Pk w R p) (hk:p.kind=1) (hn1:p.wills=⟨none,0,0⟩) (hn2:p.user=⟨none,0,0⟩) (hn3:p.pass=⟨none,0,0⟩):Calls Tryz.prog 51 #[.pointer (some ⟨R,0,none⟩)] w (ConnPost w0 R p st w):=by
 have hlt:=h.lt
 have HP:=zh hp
 have HS:=zh h
 have HK:=zh hk
 have HN1:=zh hn1
 have HN2:=zh hn2
 have HN3:=zh hn3
 clear hp h hk hn1 hn2 hn3
 go_enter Tryz.func51,Tryz.ntmps51
 go_wp2_with fail
 refine (text_any R st w0 w (uh HS)).mono ?_
 rintro e w1 ⟨m,st1,rfl,-,hs1,h1,hx1⟩
 have HS1:=zh h1
 have HX1:=zh hx1
 have HST1:=zh hs1
 clear h1 hx1 hs1
 go_wp2_with fail
 refine (must_any R _ st1 w0 w1 (uh HS1)).mono ?_
 rintro e w2 ⟨rfl,h2,hx2⟩
 have HS2:=zh h2
 have HX2:Hid (BX R isRE w w2):=(uh HX1).trans hx2
 clear h2 hx2 HX1 HS1
 go_wp2_with fail
 refine (one_any R _ w0 w2 (uh HS2)).mono ?_
 rintro e w3 ⟨v,st3,rfl,-,hs3,h3,hx3⟩
 have HS3:=zh h3
 have HX3:Hid (BX R isRE w w3):=(uh HX2).trans hx3
 have HST3:=zh hs3
 clear h3 hx3 hs3 HX2 HS2
 go_wp2_with fail
 refine (must_any R _ st3 w0 w3 (uh HS3)).mono ?_
 rintro e w4 ⟨rfl,h4,hx4⟩
 have HX4:Hid (BX R isRE w w4):=(uh HX3).trans hx4
 have HP4:=zh ((uh HP).bx (uh HX4))
 have HS4:=zh h4
 clear h4 hx4 HX3 HS3
 go_wp2_with fail
 refine (rflags_any R p _ w0 w4 (uh HS4) (uh HP4) (uh HN1) (uh HN2) (uh HN3)).mono ?_
 rintro e w5 ⟨rfl,x,V,U,Q,st5,hx,hp5,hR5,hs5,h5,hx5⟩
 have HX5:Hid (BX R isAny w w5):=(uh HX4).any.trans hx5
 have hsz4:w.heap.size<=w4.heap.size:=(uh HX4).size
 have hsz45:w4.heap.size<=w5.heap.size:=hx5.size
 have HS5:=zh h5
 have HP5:=zh hp5
 have HST5:=zh hs5
 clear h5 hx5 hs5 hp5 HX4 HS4 HP4
 go_wp2_with fail
 refine (two_any R st5 w0 w5 (uh HS5)).mono ?_
 rintro e w6 ⟨k,st6,rfl,hk6,hs6,h6,hx6⟩
 have hp6:=(uh HP5).bx hx6
 have c10:=hp6.keep
 have f10:=hp6.keep_f
 have HP6:=zh (hp6.set_keep k)
 have HS6:=zh (h6.set 10 (.int .i64 k) (by decide))
 have HX6:Hid (BX R isAny w (w6.setCell ⟨R,10,none⟩ (.int .i64 k))):=((uh HX5).trans hx6.any).set 10 _ trivial
 have HXR6:Hid (BX R isAny w5 (w6.setCell ⟨R,10,none⟩ (.int .i64 k))):=(hx6.any).set 10 _ trivial
 have HST6:=zh hs6
 have c0:w6.cell? ⟨R,0,none⟩=some (.int .i64 1):=hp6.kind.trans (congrArg (fun z=>some (Value.int .i64 z)) (uh HK))
 clear h6 hx6 hs6 hp6 HX5 HS5 HP5 hk6
 go_wp2_with fail
 refine (props_any R 1 st6 w0 _ (uh HS6)).mono ?_
 rintro e w7 ⟨tp,pr,st7,rfl,hO7,hs7,h7,hx7⟩
 have hp7:=(uh HP6).bx hx7
 have c7:=hp7.props
 have f7:=hp7.props_f
 have HP7:=zh (hp7.set_props tp)
 have HS7:=zh (h7.set 7 tp.val (by decide))
 have HX7:Hid (BX R isAny w (w7.setCell ⟨R,7,none⟩ tp.val)):=((uh HX6).trans hx7.any).set 7 _ trivial
 have HXR7:Hid (BX R isAny w5 (w7.setCell ⟨R,7,none⟩ tp.val)):=((uh HXR6).trans hx7.any).set 7 _ trivial
 obtain⟨M,hM⟩:∃ M,M=(w6.setCell ⟨R,10,none⟩ (.int .i64 k)).heap.size:=⟨_,rfl⟩
 have hM0:w.heap.size<=M:=by rw[hM];exact (uh HX6).size
 have hM5:w5.heap.size<=M:=by rw[hM];exact (uh HXR6).size
 rw[<- hM]at hO7
 have HO7:Hid ((w7.setCell ⟨R,7,none⟩ tp.val).ownsRow M 109 4 tp.val pr.length (pcs pr)):=owns_bx (uh hO7) ((BX.refl R isAny w7).set 7 _ trivial) (Nat.lt_of_lt_of_le hlt hM0)
 have hM7:M<=(w7.setCell ⟨R,7,none⟩ tp.val).heap.size:=by rw[hM];simpa [World.setCell] using hx7.size
 clear hM
 have HST7:=zh hs7
 clear h7 hx7 hs7 hp7 hO7 HX6 HS6 HP6 HXR6 c10 f10 c0
 go_wp2_with fail
 refine (text_any R st7 w0 _ (uh HS7)).mono ?_
 rintro e w8 ⟨c,st8,rfl,-,hs8,h8,hx8⟩
 have hp8:=(uh HP7).bx hx8
 have c8:=hp8.client
 have f8:=hp8.client_f
 have HP8:Hid (Pk (w8.setCell ⟨R,8,none⟩ (.string c)) R { p with clean:=btest x 2,wills:=isW V (btest x 4),user:=isW U (btest x 128),pass:=isW Q (btest x 64),keep:=k,props:=tp,client:=c }):=hp8.set_client c
 have HS8:=zh (h8.set 8 (.string c) (by decide))
 have HX8:Hid (BX R isAny w (w8.setCell ⟨R,8,none⟩ (.string c))):=((uh HX7).trans hx8.any).set 8 _ trivial
 have HXR8:BX R isAny w5 (w8.setCell ⟨R,8,none⟩ (.string c)):=((uh HXR7).trans hx8.any).set 8 _ trivial
 have HV8:Hid (Rm w4.heap.size R (w8.setCell ⟨R,8,none⟩ (.string c)) (btest x 4) V (willO x)):=(uh hR5).v.bx HXR8
 have HU8:Hid (Rm w4.heap.size R (w8.setCell ⟨R,8,none⟩ (.string c)) (btest x 128) U strO):=(uh hR5).u.bx HXR8
 have HQ8:Hid (Rm w4.heap.size R (w8.setCell ⟨R,8,none⟩ (.string c)) (btest x 64) Q strO):=(uh hR5).q.bx HXR8
 have HNE:=zh (And.intro (uh hR5).vu (And.intro (uh hR5).vq (uh hR5).uq))
 have HO8:Hid ((w8.setCell ⟨R,8,none⟩ (.string c)).ownsRow M 109 4 tp.val pr.length (pcs pr)):=owns_bx (uh HO7) ((hx8.any).set 8 _ trivial) (Nat.lt_of_lt_of_le hlt hM0)
 have HVM:Hid ((btest x 4=true->V < M)/\(btest x 128=true->U < M)/\(btest x 64=true->Q < M)):=⟨fun h=>Nat.lt_of_lt_of_le ((uh hR5).v.2.2 h).1 hM5,fun h=>Nat.lt_of_lt_of_le ((uh hR5).u.2.2 h).1 hM5,fun h=>Nat.lt_of_lt_of_le ((uh hR5).q.2.2 h).1 hM5⟩
 have HST8:Hid (∀ wl us pa st9 st10 st11,Stp (will? x) st8 wl st9->Stp (user? x) st9 us st10->Stp (pass? x) st10 pa st11->Stp connect? st ⟨x,k,pr,c,wl,us,pa⟩ st11):=fun wl us pa st9 st10 st11 k1 k2 k3 =>
  (uh HST1).bind ((Stp.must _ st1).bind ((uh HST3).bind ((Stp.must _ st3).bind ((uh HST5).bind ((uh HST6).bind ((uh HST7).bind (hs8.bind (k1.bind (k2.bind (k3.bind (Stp.pure _ _)))))))))))
 have HX8s:Hid (w4.heap.size<=(w8.setCell ⟨R,8,none⟩ (.string c)).heap.size):=Nat.le_trans hsz45 HXR8.size
 have HM8:Hid (M<=(w8.setCell ⟨R,8,none⟩ (.string c)).heap.size):=Nat.le_trans hM7 (by simpa [World.setCell] using hx8.size)
 clear h8 hx8 hs8 hp8 hR5 HO7 HX7 HS7 HP7 HXR7 HXR8 c7 f7 HST1 HST3 HST5 HST6 HST7
 go_upto_region 7 with fail
 generalize hW:w8.setCell ⟨R,8,none⟩ (.string c)=w9 at HX8s HM8 HP8 HS8 HX8 HV8 HU8 HQ8 HO8 |-
 have c11:w9.cell? ⟨R,11,none⟩=some (.slice (isW V (btest x 4)).ao (isW V (btest x 4)).n (isW V (btest x 4)).cap):=(uh HP8).wills
 have hlt9:R < w9.heap.size:=(uh HS8).lt
 have hs49:w4.heap.size<=w9.heap.size:=(uh HX8s)
 have hM9:M<=w9.heap.size:=uh HM8
 have h0w:w0.heap.size<=w4.heap.size:=Nat.le_trans (uh HS).keep.size hsz4
 clear hW c8 f8
 go_upto_block 0 with fail
 go_cut [] from 3 (fun wx=>∃ wl st9,Hid (RS w0 wx R st9)/\Hid (Pk wx R { p with clean:=btest x 2,wills:=isW V (btest x 4),user:=isW U (btest x 128),pass:=isW Q (btest x 64),keep:=k,props:=tp,client:=c })/\Hid (BX R isAny w wx)/\Hid (WillAt w4.heap.size w9.heap.size R wx x V wl)/\Hid (Rm w4.heap.size R wx (btest x 128) U strO)/\Hid (Rm w4.heap.size R wx (btest x 64) Q strO)/\Hid (wx.ownsRow M 109 4 tp.val pr.length (pcs pr))/\Hid (Stp (will? x) st8 wl st9)/\w9.heap.size<=wx.heap.size)
 case first =>
  cases h4:btest x 4
  ·rw[h4]at c11
   rw[show isW V false=⟨none,0,0⟩ from rfl]at c11 |-
   go_wp2
   refine wp_loop_rounds 1 ?_
   rw[rounds_succ]
   go_wp2
   go_meet
   case rel =>
    refine⟨none,st8,HS8,HP8,HX8,⟨fun _=>rfl,fun h=>by rw[h4]at h;cases h⟩,HU8,HQ8,HO8,?_,Nat.le_refl _⟩
    show Stp (will? x) st8 none st8
    unfold will?
    rw[h4]
    exact Stp.pure _ _
  ·rw[h4]at c11
   rw[show isW V true=⟨some ⟨V,0,none⟩,1,1⟩ from rfl]at c11 |-
   obtain⟨hV0,hVR,hVb⟩:=uh HV8
   obtain⟨hVl,hVh⟩:=hVb h4
   have hVM:=(uh HVM).1 h4
   have hVh0:Hid (w9.heap[V]?=some (.cells #[.string ⟨#[]⟩,.string ⟨#[]⟩,.int .i64 (x / 8 % 4),.bool (btest x 32),.slice none 0 0] 112)):=hVh
   clear hVb hVh
   have HU9:Hid (btest x 128=true->U≠V):=fun h e=>(uh HNE).1 h4 h e.symm
   have HQ9:Hid (btest x 64=true->Q≠V):=fun h e=>(uh HNE).2.1 h4 h e.symm
   go_wp2
   refine wp_loop_rounds 2 ?_
   rw[rounds_succ]
   go_wp2_with fail
   refine (props_any R 16 st8 w0 w9 (uh HS8)).mono ?_
   rintro e w10 ⟨tq,q,st10,rfl,hO10,hs10,h10,hx10⟩
   have b10:w10.heap[V]?=some (.cells #[.string ⟨#[]⟩,.string ⟨#[]⟩,.int .i64 (x / 8 % 4),.bool (btest x 32),.slice none 0 0] 112):=(hx10.block V hVl hVR).trans (uh hVh0)
   have v4:w10.cell? ⟨V,4,none⟩=some (.slice none 0 0):=by simp[World.cell?,b10]
   have g4:w10.frozen? ⟨V,4,none⟩=false:=by simp[World.frozen?,b10]
   have hVl10:V < w10.heap.size:=Nat.lt_of_lt_of_le hVl hx10.size
   have BV10:Hid ((w10.setCell ⟨V,4,none⟩ tq.val).heap[V]?=some (.cells #[.string ⟨#[]⟩,.string ⟨#[]⟩,.int .i64 (x / 8 % 4),.bool (btest x 32),Sl.val tq] 112)):=by
    have k:=heap_set (j:=4) (u:=tq.val) b10
    show _=_
    simpa using k
   have HS10:Hid (RS w0 (w10.setCell ⟨V,4,none⟩ tq.val) R st10):=h10.setOut V 4 _ hVR (Nat.le_trans h0w hV0) (fun t y e=>by simp[World.cell?,b10]at e)
   have HX10:Hid (BX R isAny w (w10.setCell ⟨V,4,none⟩ tq.val)):=((uh HX8).trans hx10.any).setOut V 4 _ (Nat.le_trans hsz4 hV0) hlt
   have HO10:Hid ((w10.setCell ⟨V,4,none⟩ tq.val).ownsRow w9.heap.size 109 4 tq.val q.length (pcs q)):=owns_out (uh hO10) hVl
   have HT10:Hid ((w10.setCell ⟨V,4,none⟩ tq.val).ownsRow M 109 4 tp.val pr.length (pcs pr)):=owns_out (owns_bx (uh HO8) hx10 (Nat.lt_of_lt_of_le hlt hM0)) hVM
   have HP10:Hid (Pk (w10.setCell ⟨V,4,none⟩ tq.val) R { p with clean:=btest x 2,wills:=isW V (btest x 4),user:=isW U (btest x 128),pass:=isW Q (btest x 64),keep:=k,props:=tp,client:=c }):=pk_out ((uh HP8).bx hx10) hVR
   have HU10:Hid (Rm w4.heap.size R (w10.setCell ⟨V,4,none⟩ tq.val) (btest x 128) U strO):=((uh HU8).bx hx10).out (uh HU9)
   have HQ10:Hid (Rm w4.heap.size R (w10.setCell ⟨V,4,none⟩ tq.val) (btest x 64) Q strO):=((uh HQ8).bx hx10).out (uh HQ9)
   have HN10:w9.heap.size<=(w10.setCell ⟨V,4,none⟩ tq.val).heap.size:=by simpa [World.setCell] using hx10.size
   have hl10:V < (w10.setCell ⟨V,4,none⟩ tq.val).heap.size:=by simpa [World.setCell] using hVl10
   have HST10:=zh hs10
   clear hO10 hs10 h10 hx10 c11 b10
   go_wp2_with fail
   refine (text_any R st10 w0 _ (uh HS10)).mono ?_
   rintro e w11 ⟨t,st11,rfl,-,hs11,h11,hx11⟩
   have b11:w11.heap[V]?=some (.cells #[.string ⟨#[]⟩,.string ⟨#[]⟩,.int .i64 (x / 8 % 4),.bool (btest x 32),Sl.val tq] 112):=(hx11.block V hl10 hVR).trans (uh BV10)
   have v0:w11.cell? ⟨V,0,none⟩=some (.string ⟨#[]⟩):=by simp[World.cell?,b11]
   have g0:w11.frozen? ⟨V,0,none⟩=false:=by simp[World.frozen?,b11]
   have BV11:Hid ((w11.setCell ⟨V,0,none⟩ (.string t)).heap[V]?=some (.cells #[.string t,.string ⟨#[]⟩,.int .i64 (x / 8 % 4),.bool (btest x 32),Sl.val tq] 112)):=by
    have k:=heap_set (j:=0) (u:=.string t) b11
    show _=_
    simpa using k
   have HS11:Hid (RS w0 (w11.setCell ⟨V,0,none⟩ (.string t)) R st11):=h11.setOut V 0 _ hVR (Nat.le_trans h0w hV0) (fun t y e=>by simp[World.cell?,b11]at e)
   have HX11:Hid (BX R isAny w (w11.setCell ⟨V,0,none⟩ (.string t))):=((uh HX10).trans hx11.any).setOut V 0 _ (Nat.le_trans hsz4 hV0) hlt
   have HO11:Hid ((w11.setCell ⟨V,0,none⟩ (.string t)).ownsRow w9.heap.size 109 4 tq.val q.length (pcs q)):=owns_out (owns_bx (uh HO10) hx11 hlt9) hVl
   have HT11:Hid ((w11.setCell ⟨V,0,none⟩ (.string t)).ownsRow M 109 4 tp.val pr.length (pcs pr)):=owns_out (owns_bx (uh HT10) hx11 (Nat.lt_of_lt_of_le hlt hM0)) hVM
   have HP11:Hid (Pk (w11.setCell ⟨V,0,none⟩ (.string t)) R { p with clean:=btest x 2,wills:=isW V (btest x 4),user:=isW U (btest x 128),pass:=isW Q (btest x 64),keep:=k,props:=tp,client:=c }):=pk_out ((uh HP10).bx hx11) hVR
   have HU11:Hid (Rm w4.heap.size R (w11.setCell ⟨V,0,none⟩ (.string t)) (btest x 128) U strO):=((uh HU10).bx hx11).out (uh HU9)
   have HQ11:Hid (Rm w4.heap.size R (w11.setCell ⟨V,0,none⟩ (.string t)) (btest x 64) Q strO):=((uh HQ10).bx hx11).out (uh HQ9)
   have HN11:w9.heap.size<=(w11.setCell ⟨V,0,none⟩ (.string t)).heap.size:=Nat.le_trans HN10 (by simpa [World.setCell] using hx11.size)
   have hl11:V < (w11.setCell ⟨V,0,none⟩ (.string t)).heap.size:=Nat.lt_of_lt_of_le hl10 (by simpa [World.setCell] using hx11.size)
   have HST11:=zh hs11
   clear hs11 h11 hx11 b11 v4 g4 HS10 HX10 HO10 HT10 HP10 HU10 HQ10 HN10 BV10
   go_wp2_with fail
   refine (bin_any R st11 w0 _ (uh HS11)).mono ?_
   rintro e w12 ⟨y,st12,rfl,-,hs12,h12,hx12⟩
   have b12:w12.heap[V]?=some (.cells #[.string t,.string ⟨#[]⟩,.int .i64 (x / 8 % 4),.bool (btest x 32),Sl.val tq] 112):=(hx12.block V hl11 hVR).trans (uh BV11)
   have v1:w12.cell? ⟨V,1,none⟩=some (.string ⟨#[]⟩):=by simp[World.cell?,b12]
   have g1:w12.frozen? ⟨V,1,none⟩=false:=by simp[World.frozen?,b12]
   have BV12:Hid ((w12.setCell ⟨V,1,none⟩ (.string y)).heap[V]?=some (.cells #[.string t,.string y,.int .i64 (x / 8 % 4),.bool (btest x 32),Sl.val tq] 112)):=by
    have k:=heap_set (j:=1) (u:=.string y) b12
    show _=_
    simpa using k
   have HS12:Hid (RS w0 (w12.setCell ⟨V,1,none⟩ (.string y)) R st12):=h12.setOut V 1 _ hVR (Nat.le_trans h0w hV0) (fun t y e=>by simp[World.cell?,b12]at e)
   have HX12:Hid (BX R isAny w (w12.setCell ⟨V,1,none⟩ (.string y))):=((uh HX11).trans hx12.any).setOut V 1 _ (Nat.le_trans hsz4 hV0) hlt
   have HO12:Hid ((w12.setCell ⟨V,1,none⟩ (.string y)).ownsRow w9.heap.size 109 4 tq.val q.length (pcs q)):=owns_out (owns_bx (uh HO11) hx12 hlt9) hVl
   have HT12:Hid ((w12.setCell ⟨V,1,none⟩ (.string y)).ownsRow M 109 4 tp.val pr.length (pcs pr)):=owns_out (owns_bx (uh HT11) hx12 (Nat.lt_of_lt_of_le hlt hM0)) hVM
   have HP12:Hid (Pk (w12.setCell ⟨V,1,none⟩ (.string y)) R { p with clean:=btest x 2,wills:=isW V (btest x 4),user:=isW U (btest x 128),pass:=isW Q (btest x 64),keep:=k,props:=tp,client:=c }):=pk_out ((uh HP11).bx hx12) hVR
   have HU12:Hid (Rm w4.heap.size R (w12.setCell ⟨V,1,none⟩ (.string y)) (btest x 128) U strO):=((uh HU11).bx hx12).out (uh HU9)
   have HQ12:Hid (Rm w4.heap.size R (w12.setCell ⟨V,1,none⟩ (.string y)) (btest x 64) Q strO):=((uh HQ11).bx hx12).out (uh HQ9)
   have HN12:w9.heap.size<=(w12.setCell ⟨V,1,none⟩ (.string y)).heap.size:=Nat.le_trans HN11 (by simpa [World.setCell] using hx12.size)
   have hl12:V < (w12.setCell ⟨V,1,none⟩ (.string y)).heap.size:=Nat.lt_of_lt_of_le hl11 (by simpa [World.setCell] using hx12.size)
   have HST12:Hid (Stp (will? x) st8 (some (q,t,y)) st12):=by
    show Stp _ _ _ _
    unfold will?
    rw[h4,if_pos rfl]
    exact (uh HST10).bind ((uh HST11).bind (hs12.bind (Stp.pure _ _)))
   clear hs12 h12 hx12 b12 v0 g0 HS11 HX11 HO11 HT11 HP11 HU11 HQ11 HN11 BV11
   go_wp2
   rw[rounds_succ]
   go_wp2
   go_meet
   case rel =>
    exact⟨some (q,t,y),st12,HS12,HP12,HX12,⟨(fun h=>by rw[h4]at h;cases h),fun _=>⟨q,t,y,tq,rfl,hV0,hVR,hl12,uh BV12,uh HO12⟩⟩,HU12,HQ12,HT12,HST12,HN12⟩
 case rest =>
 obtain⟨wl,st9,HS9,HP9,HX9,HWL,HU,HQ,HO9,HST9,hN9⟩:=hcut
 obtain⟨wb,hwb⟩:∃ wb,wb=wc:=⟨wc,rfl⟩
 subst hwb
 clear HP8 HS8 HX8 HV8 HU8 HQ8 HO8 c11
 have cU:wb.cell? ⟨R,12,none⟩=some (.slice (isW U (btest x 128)).ao (isW U (btest x 128)).n (isW U (btest x 128)).cap):=(uh HP9).user
 go_upto_block 2 with fail
 go_cut [] from 3 (fun wx=>∃ us stu,Hid (RS w0 wx R stu)/\Hid (Pk wx R { p with clean:=btest x 2,wills:=isW V (btest x 4),user:=isW U (btest x 128),pass:=isW Q (btest x 64),keep:=k,props:=tp,client:=c })/\Hid (BX R isAny w wx)/\Hid (WillAt w4.heap.size w9.heap.size R wx x V wl)/\Hid (StrAt w4.heap.size R wx (btest x 128) U us)/\Hid (Rm w4.heap.size R wx (btest x 64) Q strO)/\Hid (wx.ownsRow M 109 4 tp.val pr.length (pcs pr))/\Hid (Stp (user? x) st9 us stu)/\w9.heap.size<=wx.heap.size)
 case first =>
  cases hb:btest x 128
  ·rw[hb]at cU
   rw[show isW U false=⟨none,0,0⟩ from rfl]at cU |-
   go_wp2
   refine wp_loop_rounds 1 ?_
   rw[rounds_succ]
   go_wp2
   go_meet
   case rel =>
    refine⟨none,st9,HS9,HP9,HX9,HWL,⟨fun _=>rfl,fun h=>by rw[hb]at h;cases h⟩,HQ,HO9,?_,hN9⟩
    show Stp (user? x) st9 none st9
    unfold user?
    rw[hb]
    exact Stp.pure _ _
  ·rw[hb]at cU
   rw[show isW U true=⟨some ⟨U,0,none⟩,1,1⟩ from rfl]at cU |-
   obtain⟨hU0,hUR,hUb⟩:=uh HU
   obtain⟨hUl,hUh0⟩:=hUb hb
   have hUh:=zh hUh0
   clear hUb hUh0
   have hUM:=(uh HVM).2.1 hb
   go_wp2
   refine wp_loop_rounds 2 ?_
   rw[rounds_succ]
   go_wp2_with fail
   refine wp_region_noPanic ?_
   refine wp_region_held_drew (S:=(fun w'=>w'.cell? ⟨R,12,none⟩=some (.slice (some ⟨U,0,none⟩) 1 1))) (by kernel_rfl) (by simpa using cU) (fun hHeld=>?_)
   refine rtk 0 (h:=?_)
   refine rtk 1 (h:=?_)
   refine rtk 2 (h:=?_)
   refine rtk 3 (h:=?_)
   refine rtk 4 (h:=?_)
   refine rtk 5 (h:=?_)
   refine rcl 6 (h:=fun K hK=>?_)
   go_simp
   refine (text_any R st9 w0 _ ((uh HS9).below (bel_drew wb))).mono ?_
   rintro e w20 ⟨t,stu,rfl,-,hs20,h20,hx20⟩
   have hxw:BX R isRE wb w20:=(BX.of_below (bel_drew wb) (uh HS9).lt).trans hx20
   have hcU:w20.cell? ⟨R,12,none⟩=some (.slice (some ⟨U,0,none⟩) 1 1):=(hxw.cell 12 (by unfold isRE;omega)).trans cU
   have b20:w20.heap[U]?=some strO:=(hxw.block U hUl hUR).trans (uh hUh)
   have v0:w20.cell? ⟨U,0,none⟩=some (.string ⟨#[]⟩):=by simp[World.cell?,b20]
   have g0:w20.frozen? ⟨U,0,none⟩=false:=by simp[World.frozen?,b20]
   have BU:Hid ((w20.setCell ⟨U,0,none⟩ (.string t)).heap[U]?=some (.cells #[.string t] 9)):=by
    have k:=heap_set (j:=0) (u:=.string t) b20
    show _=_
    simpa using k
   have HS20:Hid (RS w0 (w20.setCell ⟨U,0,none⟩ (.string t)) R stu):=h20.setOut U 0 _ hUR (Nat.le_trans h0w hU0) (fun t y e=>by simp[World.cell?,b20]at e)
   have HX20:Hid (BX R isAny w (w20.setCell ⟨U,0,none⟩ (.string t))):=((uh HX9).trans hxw.any).setOut U 0 _ (Nat.le_trans hsz4 hU0) hlt
   have HT20:Hid ((w20.setCell ⟨U,0,none⟩ (.string t)).ownsRow M 109 4 tp.val pr.length (pcs pr)):=owns_out (owns_bx (uh HO9) hxw (Nat.lt_of_lt_of_le hlt hM0)) hUM
   have HP20:Hid (Pk (w20.setCell ⟨U,0,none⟩ (.string t)) R { p with clean:=btest x 2,wills:=isW V (btest x 4),user:=isW U (btest x 128),pass:=isW Q (btest x 64),keep:=k,props:=tp,client:=c }):=pk_out ((uh HP9).bx hxw) hUR
   have HW20:Hid (WillAt w4.heap.size w9.heap.size R (w20.setCell ⟨U,0,none⟩ (.string t)) x V wl):=((uh HWL).bx hxw hlt9).out (fun h=>(uh HNE).1 h hb) (Nat.lt_of_lt_of_le hUM hM9)
   have HN20:w9.heap.size<=(w20.setCell ⟨U,0,none⟩ (.string t)).heap.size:=Nat.le_trans hN9 (by simpa [World.setCell] using hxw.size)
   have hl20:U < (w20.setCell ⟨U,0,none⟩ (.string t)).heap.size:=Nat.lt_of_lt_of_le hUl (by simpa [World.setCell] using hxw.size)
   have HST20:Hid (Stp (user? x) st9 (some t) stu):=by
    show Stp _ _ _ _
    unfold user?
    rw[hb,if_pos rfl]
    exact hs20.bind (Stp.pure _ _)
   have H2Q:Hid (Rm w4.heap.size R (w20.setCell ⟨U,0,none⟩ (.string t)) (btest x 64) Q strO):=((uh HQ).bx hxw).out (fun h e=>(uh HNE).2.2 hb h e.symm)
   have hcS:(w20.setCell ⟨U,0,none⟩ (.string t)).cell? ⟨R,12,none⟩=some (.slice (some ⟨U,0,none⟩) 1 1):=(World.cell?_setCell_other _ _ _ _ (fun e=>by injection e with e1 _;exact hUR e1)).trans hcU
   clear hs20 h20 hx20 hxw
   refine hK.out _ _ (by exact hcU) (fun hHeld=>?_)
   clear hK K
   refine rtk 7 (h:=?_)
   refine rcl 8 (h:=fun K hK=>?_)
   go_simp
   refine hK.out _ _ (by exact hcS) (fun hHeld=>?_)
   clear hK K
   refine wpAnyH_done (by kernel_rfl) ?_ _
   refine NoPanic.normal ?_
   clear cU hcU v0 g0 b20 hcS hHeld
   go_wp2
   rw[rounds_succ]
   go_wp2
   go_meet
   case rel =>
    exact⟨some t,stu,HS20,HP20,HX20,HW20,⟨(fun h=>by rw[hb]at h;cases h),fun _=>⟨t,rfl,hU0,hUR,hl20,uh BU⟩⟩,H2Q,HT20,HST20,HN20⟩
 case rest =>
 obtain⟨us,stu,HSu,HPu,HXu,HWLu,HDU,HQu,HOu,HSTu,hNu⟩:=hcut
 obtain⟨we,hwe⟩:∃ we,we=wc:=⟨wc,rfl⟩
 subst hwe
 clear HS9 HP9 HX9 HWL HU HQ HO9 hN9 cU
 have HS13:=HSu
 have HP13:=HPu
 have HX13:=HXu
 have HWL:=HWLu
 have HQ:=HQu
 have HO13:=HOu
 have hN13:=hNu
 clear HSu HPu HXu HWLu HQu HOu hNu
 have cU:we.cell? ⟨R,13,none⟩=some (.slice (isW Q (btest x 64)).ao (isW Q (btest x 64)).n (isW Q (btest x 64)).cap):=(uh HP13).pass
 cases hb:btest x 64
 ·rw[hb]at cU
  rw[show isW Q false=⟨none,0,0⟩ from rfl]at cU
  go_wp2
  refine wp_loop_rounds 1 ?_
  rw[rounds_succ]
  go_wp2
  go_end0
  have hSP:Stp (pass? x) stu none stu:=by
   unfold pass?
   rw[hb,if_neg (by decide)]
   exact Stp.pure _ _
  exact⟨rfl,⟨x,k,pr,c,wl,us,none⟩,V,U,Q,w9.heap.size,tp,_,uh HP13,owns_mono (uh HO13) hM0,Nat.le_trans hsz4 hs49,(uh HWL).base hsz4,(uh HDU).base hsz4,⟨fun _=>rfl,fun h=>by rw[hb]at h;cases h⟩,(uh HST8) _ _ _ _ _ _ (uh HST9) (uh HSTu) hSP,uh HS13,uh HX13⟩
 ·rw[hb]at cU
  rw[show isW Q true=⟨some ⟨Q,0,none⟩,1,1⟩ from rfl]at cU
  obtain⟨hU0,hUR,hUb⟩:=uh HQ
  obtain⟨hUl,hUh0⟩:=hUb hb
  have hUh:=zh hUh0
  clear hUb hUh0
  have hUM:=(uh HVM).2.2 hb
  go_wp2
  refine wp_loop_rounds 2 ?_
  rw[rounds_succ]
  go_wp2_with fail
  refine wp_region_noPanic ?_
  refine wp_region_held_drew (S:=(fun w'=>w'.cell? ⟨R,13,none⟩=some (.slice (some ⟨Q,0,none⟩) 1 1))) (by kernel_rfl) (by simpa using cU) (fun hHeld=>?_)
  refine rtk 0 (h:=?_)
  refine rtk 1 (h:=?_)
  refine rtk 2 (h:=?_)
  refine rtk 3 (h:=?_)
  refine rtk 4 (h:=?_)
  refine rtk 5 (h:=?_)
  refine rcl 6 (h:=fun K hK=>?_)
  go_simp
  refine (bin_any R stu w0 _ ((uh HS13).below (bel_drew we))).mono ?_
  rintro e w20 ⟨t,stp,rfl,-,hs20,h20,hx20⟩
  have hxw:BX R isRE we w20:=(BX.of_below (bel_drew we) (uh HS13).lt).trans hx20
  have hcU:w20.cell? ⟨R,13,none⟩=some (.slice (some ⟨Q,0,none⟩) 1 1):=(hxw.cell 13 (by unfold isRE;omega)).trans cU
  have b20:w20.heap[Q]?=some strO:=(hxw.block Q hUl hUR).trans (uh hUh)
  have v0:w20.cell? ⟨Q,0,none⟩=some (.string ⟨#[]⟩):=by simp[World.cell?,b20]
  have g0:w20.frozen? ⟨Q,0,none⟩=false:=by simp[World.frozen?,b20]
  have BU:Hid ((w20.setCell ⟨Q,0,none⟩ (.string t)).heap[Q]?=some (.cells #[.string t] 9)):=by
   have k:=heap_set (j:=0) (u:=.string t) b20
   show _=_
   simpa using k
  have HS20:Hid (RS w0 (w20.setCell ⟨Q,0,none⟩ (.string t)) R stp):=h20.setOut Q 0 _ hUR (Nat.le_trans h0w hU0) (fun t y e=>by simp[World.cell?,b20]at e)
  have HX20:Hid (BX R isAny w (w20.setCell ⟨Q,0,none⟩ (.string t))):=((uh HX13).trans hxw.any).setOut Q 0 _ (Nat.le_trans hsz4 hU0) hlt
  have HT20:Hid ((w20.setCell ⟨Q,0,none⟩ (.string t)).ownsRow M 109 4 tp.val pr.length (pcs pr)):=owns_out (owns_bx (uh HO13) hxw (Nat.lt_of_lt_of_le hlt hM0)) hUM
  have HP20:Hid (Pk (w20.setCell ⟨Q,0,none⟩ (.string t)) R { p with clean:=btest x 2,wills:=isW V (btest x 4),user:=isW U (btest x 128),pass:=isW Q (btest x 64),keep:=k,props:=tp,client:=c }):=pk_out ((uh HP13).bx hxw) hUR
  have HW20:Hid (WillAt w4.heap.size w9.heap.size R (w20.setCell ⟨Q,0,none⟩ (.string t)) x V wl):=((uh HWL).bx hxw hlt9).out (fun h=>(uh HNE).2.1 h hb) (Nat.lt_of_lt_of_le hUM hM9)
  have HN20:w9.heap.size<=(w20.setCell ⟨Q,0,none⟩ (.string t)).heap.size:=Nat.le_trans hN13 (by simpa [World.setCell] using hxw.size)
  have hl20:Q < (w20.setCell ⟨Q,0,none⟩ (.string t)).heap.size:=Nat.lt_of_lt_of_le hUl (by simpa [World.setCell] using hxw.size)
  have HST20:Hid (Stp (pass? x) stu (some t) stp):=by
   show Stp _ _ _ _
   unfold pass?
   rw[hb,if_pos rfl]
   exact hs20.bind (Stp.pure _ _)
  have H2U:Hid (StrAt w4.heap.size R (w20.setCell ⟨Q,0,none⟩ (.string t)) (btest x 128) U us):=((uh HDU).bx hxw).out (fun h=>(uh HNE).2.2 h hb)
  have hcS:(w20.setCell ⟨Q,0,none⟩ (.string t)).cell? ⟨R,13,none⟩=some (.slice (some ⟨Q,0,none⟩) 1 1):=(World.cell?_setCell_other _ _ _ _ (fun e=>by injection e with e1 _;exact hUR e1)).trans hcU
  clear hs20 h20 hx20 hxw
  refine hK.out _ _ (by exact hcU) (fun hHeld=>?_)
  clear hK K
  refine rtk 7 (h:=?_)
  refine rcl 8 (h:=fun K hK=>?_)
  go_simp
  refine hK.out _ _ (by exact hcS) (fun hHeld=>?_)
  clear hK K
  refine wpAnyH_done (by kernel_rfl) ?_ _
  refine NoPanic.normal ?_
  clear cU hcU v0 g0 b20 hcS hHeld
  go_wp2
  rw[rounds_succ]
  go_wp2
  go_end0
  exact⟨rfl,⟨x,k,pr,c,wl,us,(some t)⟩,V,U,Q,w9.heap.size,tp,_,uh HP20,owns_mono (uh HT20) hM0,Nat.le_trans hsz4 hs49,(uh HW20).base hsz4,(uh H2U).base hsz4,⟨(fun h=>by rw[hb]at h;cases h),fun _=>⟨t,rfl,Nat.le_trans hsz4 hU0,hUR,hl20,uh BU⟩⟩,(uh HST8) _ _ _ _ _ _ (uh HST9) (uh HSTu) (uh HST20),uh HS20,uh HX20⟩
theorem infoSub:(Tryz.prog.info? 114).map (fun i=>(i.zero,i.size,i.bytes))=some (some (.agg #[.string ⟨#[]⟩,.int .i64 0,.bool false,.bool false,.int .i64 0]),5,40):=by kernel_rfl
theorem infoInt:(Tryz.prog.info? 3).map (fun i=>(i.zero,i.size,i.bytes))=some (some (.int .i64 0),1,8):=by kernel_rfl
theorem infoStr:(Tryz.prog.info? 9).map (fun i=>(i.zero,i.size,i.bytes))=some (some (.string ⟨#[]⟩),1,16):=by kernel_rfl
def Sb.cells (s:Sb):List Value:=[.string s.filter,.int .i64 s.qos,.bool s.nolocal,.bool s.aspub,.int .i64 s.handling]
def scs (d:List Sb):List Value:=d.flatMap Sb.cells
theorem scs_app (d:List Sb) (s:Sb):scs (d++[s])=scs d++s.cells:=by unfold scs;simp
theorem five_cell (w:World) (a b c d e:Value) (t:TypeId):∀ j u,[a,b,c,d,e][j]?=some u->(w.alloc (.cells #[a,b,c,d,e] t)).cell? ((⟨w.heap.size,0,none⟩:Addr).add j)=some u:=by
 intro j u hj
 match j,hj with
 | 0,hj=>simp at hj;subst hj;simp[Addr.add]
 | 1,hj=>simp at hj;subst hj;simp[Addr.add]
 | 2,hj=>simp at hj;subst hj;simp[Addr.add]
 | 3,hj=>simp at hj;subst hj;simp[Addr.add]
 | 4,hj=>simp at hj;subst hj;simp[Addr.add]
theorem one_str (s:ByteArray):∀ u ∈ [Value.string s],u.oneCell'=true:=by
 intro u hu;simp at hu;subst hu;rfl
theorem five_one (s:Sb):∀ u ∈ s.cells,u.oneCell'=true:=by
 intro u hu
 simp only[Sb.cells,List.mem_cons,List.not_mem_nil,or_false]at hu
 rcases hu with rfl | rfl | rfl | rfl | rfl <;> rfl
def Listcodes (w0:World) (R:Nat) (p:Pkv) (st:Option (List Int)) (w:World) (e:Ending) (w':World):Prop :=
 e=.returned (.tuple #[])/\∃ (t:Sl) (d:List Int) (st':Option (List Int)),Pk w' R { p with codes:=t }/\Hid (w'.ownsRow w.heap.size 3 1 t.val d.length (d.map (Value.int .i64)))/\Stp (list? one?) st d st'/\RS w0 w' R st'/\BX R isAny w w'
theorem list_codes (R:Nat) (p:Pkv) (st:Option (List Int)) (w0 w:World) (h:RS w0 w R st) (hp:Pk w R p) (hF:p.codes=⟨none,0,0⟩) (hl:∀ l,st=some l->l.length<=65536) (h8:p.kind≠8) (h10:p.kind≠10):Calls Tryz.prog 57 #[.pointer (some ⟨R,0,none⟩)] w (Listcodes w0 R p st w):=by
 obtain⟨i0,hi,hz0,hz1,hz2⟩:=info_parts infoInt
 have hlt:=h.lt
 have HW0:=h.keep
 have HP:=zh hp
 have HS:=zh h
 have HL:=zh hl
 have HF:=zh hF
 clear hp h hl hF
 go_enter Tryz.func57,Tryz.ntmps57
 go_wp2
 go_loopw [3] (fun c0 wr=>∃ (d:List Int) (st1:Option (List Int)) (t:Sl) (k:Nat),c0=.int .i64 k/\k<=65536/\Hid (d.length=k)/\Hid (∀ l,st1=some l->k+l.length<=65536)/\Hid (Pk wr R { p with codes:=t })/\Hid (wr.ownsRow w.heap.size 3 1 t.val k (d.map (Value.int .i64)))/\Hid (Acc one? st d st1)/\Hid (RS w0 wr R st1)/\Hid (BX R isAny w wr)) (fun _ wr=>mlen R wr)
 case atStart =>
  refine⟨[],st,⟨none,0,0⟩,0,rfl,Nat.zero_le _,rfl,fun l hl=>by have:=(uh HL) l hl;omega,?_,World.ownsRow_nil _ _ _ _,Acc.start _ _,uh HS,BX.refl _ _ _⟩
  show Pk _ _ _
  have e:{ p with codes:=⟨none,0,0⟩ }=p:=by rw[<- uh HF]
  rw[e]
  exact uh HP
 case round =>
  obtain⟨d,st1,⟨ta,tn,tc⟩,k,rfl,hk,HD,HB,HPk,HOwn,HAcc,HRS,HBX⟩:=hrel
  obtain⟨ao,m,cap,c19,⟨g1,g2⟩,gl⟩:=(uh HRS).rest
  unfold maxLen at g2
  have c0:=(uh HPk).kind
  simp only at c0
  have cF:wr.cell? ⟨R,18,none⟩=some (.slice ta tn tc):=(uh HPk).codes
  skip
  rcases (uh HRS).err with⟨l,rfl,c20⟩ | ⟨rfl,ty,x,c20⟩
  ·have hm:=gl l rfl
   clear gl
   by_cases hm0:m=0
   ·subst hm0
    obtain rfl:l=[]:=List.length_eq_zero_iff.1 hm
    go_wp2_with fail
    refine (mayCount_any k _).mono ?_
    rintro e wa ⟨rfl,hwa⟩
    obtain rfl:=hwa.symm
    clear hwa
    go_wp2_with fail
    refine (must_any R _ (some []) w0 wr (uh HRS)).mono ?_
    rintro e wb ⟨rfl,h2,hx2⟩
    have H2:=zh h2
    have HX2:=zh hx2
    clear h2 hx2
    go_wp2
    go_end0
    refine⟨rfl,⟨ta,tn,tc⟩,d,_,(uh HPk).bx (uh HX2),?_,?_,uh H2,(uh HBX).trans (uh HX2).any⟩
    ·show World.ownsRow _ _ _ _ _ _ _
     rw[uh HD]
     exact owns_bx (uh HOwn) (uh HX2) hlt
    ·refine ((uh HAcc).done (.inr rfl)).bind ((?_:Stp (mustR (mc d.length)) (some []) () (if mc k then (some []) else none)).bind (Stp.pure _ _))
     rw[uh HD]
     exact Stp.must _ _
   ·have hl0:l≠[]:=fun e=>hm0 (by rw[<- hm,e];rfl)
    have hbd:=bel_drew wr
    obtain⟨X,hXd⟩:∃ X:Nat->Prop,X=fun g=>g=R\/some g=(Value.slice ta tn tc).ownBlock:=⟨_,rfl⟩
    have HRSd:Hid (RSX w0 wr.drew R X (some l)):=by
     subst hXd
     exact ((uh HRS).below hbd).good _ ⟨.inl rfl,fun g hg=>by
      rcases hg with rfl | hg
      ·exact Nat.lt_of_lt_of_le hlt (uh HBX).size
      ·exact ((uh HOwn).lt g hg.symm).2⟩
    have HPd:=zh ((uh HPk).below hbd)
    have HBXd:Hid (BX R isAny w wr.drew):=(uh HBX).trans (BX.of_below hbd (uh HRS).lt)
    have HOd:Hid (wr.drew.ownsRow w.heap.size 3 1 (.slice ta tn tc) k (d.map (Value.int .i64))):=owns_below (uh HOwn) hbd
    clear hbd
    go_wp2_with fail
    refine wp_region_noPanic ?_
    refine wp_region_held_drew (S:=fun _=>True) (by kernel_rfl) trivial (fun hHeld=>?_)
    refine rtk 0 (h:=?_)
    refine rtk 1 (h:=?_)
    refine rtk 2 (h:=?_)
    refine rtk 3 (h:=?_)
    refine rtk 5 (h:=?_)
    refine wpAnyH_ready (rs:=[4,6]) (by kernel_rfl) (by simp) ?_
    refine rac (h:=fun K hK=>?ra) (hs:=(rac (h:=fun K hK=>?rb) (hs:=AllReadyH.nil)))
    case' ra =>
     go_simp
     refine hK.out _ _ trivial (fun hHeld=>?_)
     clear hK K
     refine rcl 6 (h:=fun K hK=>?_)
     go_simp
     refine (one_anyX R X (some l) w0 _ (uh HRSd)).mono ?_
     rintro e w2 ⟨x,st2,rfl,-,hs2,h2,hx2⟩
     have cF2:w2.cell? ⟨R,18,none⟩=some (.slice ta tn tc):=(hx2.cell 18 (by unfold isRE;omega)).trans cF
     have hs2l:w.heap.size<=w2.heap.size:=Nat.le_trans (uh HBX).size hx2.size
     have HP2:=zh ((uh HPd).bx hx2)
     have HRS2:=zh h2
     have HST2:=zh hs2
     have HBX2:Hid (BX R isAny w w2):=(uh HBXd).trans hx2.any
     have HO2:Hid (w2.ownsRow w.heap.size 3 1 (.slice ta tn tc) k (d.map (Value.int .i64))):=owns_bx (uh HOd) hx2 hlt
     have hR2:R < w2.heap.size:=Nat.lt_of_lt_of_le hlt hs2l
     have cF3:(w2.alloc (.cells #[.int .i64 x] 3)).cell? ⟨R,18,none⟩=some (.slice ta tn tc):=(World.cell?_alloc_lt _ _ ⟨R,18,none⟩ hR2).trans cF2
     clear hx2 h2 hs2
     refine hK.out _ _ trivial (fun hHeld=>?_)
     clear hK K
     refine rcl 7 (h:=fun K hK=>?_)
     go_simp
     refine hK.out _ _ trivial (fun hHeld=>?_)
     clear hK K
    case' rb =>
     go_simp
     refine (one_anyX R X (some l) w0 _ (uh HRSd)).mono ?_
     rintro e w2 ⟨x,st2,rfl,-,hs2,h2,hx2⟩
     have cF2:w2.cell? ⟨R,18,none⟩=some (.slice ta tn tc):=(hx2.cell 18 (by unfold isRE;omega)).trans cF
     have hs2l:w.heap.size<=w2.heap.size:=Nat.le_trans (uh HBX).size hx2.size
     have HP2:=zh ((uh HPd).bx hx2)
     have HRS2:=zh h2
     have HST2:=zh hs2
     have HBX2:Hid (BX R isAny w w2):=(uh HBXd).trans hx2.any
     have HO2:Hid (w2.ownsRow w.heap.size 3 1 (.slice ta tn tc) k (d.map (Value.int .i64))):=owns_bx (uh HOd) hx2 hlt
     have hR2:R < w2.heap.size:=Nat.lt_of_lt_of_le hlt hs2l
     have cF3:(w2.alloc (.cells #[.int .i64 x] 3)).cell? ⟨R,18,none⟩=some (.slice ta tn tc):=(World.cell?_alloc_lt _ _ ⟨R,18,none⟩ hR2).trans cF2
     clear hx2 h2 hs2
     refine hK.out _ _ trivial (fun hHeld=>?_)
     clear hK K
     refine wpAnyH_ready (rs:=[4,7]) (by kernel_rfl) (by simp) ?_
     refine rac (h:=fun K hK=>?rc) (hs:=(rac (h:=fun K hK=>?rd) (hs:=AllReadyH.nil)))
     case' rc =>
      go_simp
      refine hK.out _ _ trivial (fun hHeld=>?_)
      clear hK K
      refine rcl 7 (h:=fun K hK=>?_)
      go_simp
      refine hK.out _ _ trivial (fun hHeld=>?_)
      clear hK K
     case' rd =>
      go_simp
      refine hK.out _ _ trivial (fun hHeld=>?_)
      clear hK K
      refine rcl 4 (h:=fun K hK=>?_)
      go_simp
      refine hK.out _ _ trivial (fun hHeld=>?_)
      clear hK K
    all_goals (
     refine rcl 8 (h:=fun K hK=>?_)
     refine step_append_run (Z:=fun v' w'=>w'.ownsRow w.heap.size 3 1 v' (k+1) ((d.map (Value.int .i64))++[.int .i64 x])/\(w2.alloc (.cells #[.int .i64 x] 3)).grownBy w' (Value.slice ta tn tc).ownBlock) rfl _ _ 27 rfl (.slice ta tn tc) (.slice (some ⟨w2.heap.size,0,none⟩) 1 1) rfl rfl ?hr ?_
     case hr =>
      obtain⟨v4,w4,h1,h2,h3,_⟩:=run_append_own (P:=Tryz.prog) (w:=(w2.alloc (.cells #[.int .i64 x] 3))) w.heap.size 27 27 3 i0 _ 1 8 Tryz.underlying27 hi hz0 hz1 hz2 rfl (by decide) (.slice ta tn tc) k _ ((uh HO2).alloc _) ⟨w2.heap.size,0,none⟩ 1 1 [.int .i64 x] rfl (one_cell _ _ _) (one_one _ _) (by unfold maxLen;omega) (by omega) (by simp;omega)
      exact⟨v4,w4,h1,h2,h3⟩
     rintro v4 w4 ⟨hO4,hg4⟩
     have hrow:∀ g,(Value.slice ta tn tc).ownBlock=some g->w.heap.size<=g/\g < wr.heap.size:=fun g hg=>(uh HOwn).lt g hg
     have hrR:(Value.slice ta tn tc).ownBlock≠some R:=fun e=>by have:=(hrow R e).1;omega
     have HP4:Hid (Pk w4 R { p with codes:=⟨ta,tn,tc⟩ }):=((uh HP2).below (bal _ _)).grown hg4 hrR
     have h0w:w0.heap.size<=w.heap.size:=HW0.size
     have HRS4:Hid (RSX w0 w4 R X st2):=((uh HRS2).below (bal _ _)).grown hg4 (fun g hg=>by rw[hXd];exact .inr hg.symm) hrR (fun g hg=>Nat.le_trans h0w (hrow g hg).1)
     have HBX4:Hid (BX R isAny w w4):=((uh HBX2).trans (BX.of_below (bal _ _) hR2)).grown hg4 (fun g hg=>(hrow g hg).1) hlt
     obtain⟨⟨sa,sn,sc⟩,hv4,_⟩:=owns_sl hO4
     have hv4:v4=.slice sa sn sc:=hv4
     subst hv4
     have HO4:=zh hO4
     have cF4:w4.cell? ⟨R,18,none⟩=some (.slice ta tn tc):=(uh HP4).codes
     have fF4:w4.frozen? ⟨R,18,none⟩=false:=(uh HP4).codes_f
     clear hO4 hg4 hrow cF2 cF3 HP2 HRS2 HBX2
     refine hK.out _ _ trivial (fun hHeld=>?_)
     clear hK K
     simp only[Act.put,List.setIfInBounds_toArray,List.set_cons_zero,List.set_cons_succ]
     refine rtk 9 (h:=?_)
     refine rtk 10 (h:=?_)
     refine rcl 11 (h:=fun K hK=>?_)
     go_simp
     refine hK.out _ _ trivial (fun hHeld=>?_)
     clear hK K
     refine wpAnyH_done (by kernel_rfl) ?_ _
     refine NoPanic.normal ?_
     have HRS5:Hid (RS w0 (w4.setCell ⟨R,18,none⟩ (.slice sa sn sc)) R st2):=((uh HRS4).less (fun g=>g=R) rfl (fun g hg=>by rw[hXd];exact .inl hg)).set 18 _ (by decide)
     have HP5:Hid (Pk (w4.setCell ⟨R,18,none⟩ (.slice sa sn sc)) R { p with codes:=⟨sa,sn,sc⟩ }):=(uh HP4).set_codes ⟨sa,sn,sc⟩
     have HBX5:Hid (BX R isAny w (w4.setCell ⟨R,18,none⟩ (.slice sa sn sc))):=(uh HBX4).set 18 _ trivial
     have HO5:Hid ((w4.setCell ⟨R,18,none⟩ (.slice sa sn sc)).ownsRow w.heap.size 3 1 (.slice sa sn sc) (k+1) ((d++[x]).map (Value.int .i64))):=by
      show World.ownsRow _ _ _ _ _ _ _
      rw[show ((d++[x]).map (Value.int .i64))=(d.map (Value.int .i64))++[.int .i64 x] from by simp]
      exact owns_bx (uh HO4) ((BX.refl R isAny w4).set 18 _ trivial) hlt
     have HA5:Hid (Acc one? st (d++[x]) st2):=(uh HAcc).step one?_shr (uh HST2) hl0
     have HB5:Hid (∀ l',st2=some l'->(k+1)+l'.length<=65536):=by
      intro l' hl'
      subst hl'
      have h2:=stp_len one?_shr (uh HST2)
      have h3:=(uh HB) l rfl
      omega
     have hM:mlen R (w4.setCell ⟨R,18,none⟩ (.slice sa sn sc)) < mlen R wr:=by
      rw[mlen_some (uh HRS)]
      cases st2 with
      | none=>rw[mlen_none (uh HRS5)];omega
      | some l' =>
       rw[mlen_some (uh HRS5)]
       have:=stp_len one?_shr (uh HST2)
       omega
     have hk1:k+1<=65536:=by
      have h3:=(uh HB) l rfl
      have:=List.length_pos_iff.2 hl0
      omega
     have HD5:Hid ((d++[x]).length=k+1):=by show _=_;rw[List.length_append,uh HD];rfl
     clear HRS4 HP4 HBX4 HO4 cF4 fF4
     go_wp2
     go_roundw
     case rel=>exact⟨d++[x],st2,⟨sa,sn,sc⟩,k+1,by go_num,hk1,HD5,HB5,HP5,HO5,HA5,HRS5,HBX5⟩
     case measure=>exact hM)
  ·clear gl
   go_wp2_with fail
   refine (mayCount_any k _).mono ?_
   rintro e wa ⟨rfl,hwa⟩
   obtain rfl:=hwa.symm
   clear hwa
   go_wp2_with fail
   refine (must_any R _ none w0 wr (uh HRS)).mono ?_
   rintro e wb ⟨rfl,h2,hx2⟩
   have H2:=zh h2
   have HX2:=zh hx2
   clear h2 hx2
   go_wp2
   go_end0
   refine⟨rfl,⟨ta,tn,tc⟩,d,_,(uh HPk).bx (uh HX2),?_,?_,uh H2,(uh HBX).trans (uh HX2).any⟩
   ·show World.ownsRow _ _ _ _ _ _ _
    rw[uh HD]
    exact owns_bx (uh HOwn) (uh HX2) hlt
   ·refine ((uh HAcc).done (.inl rfl)).bind ((?_:Stp (mustR (mc d.length)) none () (if mc k then none else none)).bind (Stp.pure _ _))
    rw[uh HD]
    exact Stp.must _ _
def Listfilters (w0:World) (R:Nat) (p:Pkv) (st:Option (List Int)) (w:World) (e:Ending) (w':World):Prop :=
 e=.returned (.tuple #[])/\∃ (t:Sl) (d:List ByteArray) (st':Option (List Int)),Pk w' R { p with filters:=t }/\Hid (w'.ownsRow w.heap.size 9 1 t.val d.length (d.map Value.string))/\Stp (list? text?) st d st'/\RS w0 w' R st'/\BX R isAny w w'
theorem list_filters (R:Nat) (p:Pkv) (st:Option (List Int)) (w0 w:World) (h:RS w0 w R st) (hp:Pk w R p) (hF:p.filters=⟨none,0,0⟩) (hl:∀ l,st=some l->l.length<=65536) (h10:p.kind=10):Calls Tryz.prog 57 #[.pointer (some ⟨R,0,none⟩)] w (Listfilters w0 R p st w):=by
 obtain⟨i0,hi,hz0,hz1,hz2⟩:=info_parts infoStr
 have hlt:=h.lt
 have HW0:=h.keep
 have HP:=zh hp
 have HS:=zh h
 have HL:=zh hl
 have HF:=zh hF
 clear hp h hl hF
 go_enter Tryz.func57,Tryz.ntmps57
 go_wp2
 go_loopw [3] (fun c0 wr=>∃ (d:List ByteArray) (st1:Option (List Int)) (t:Sl) (k:Nat),c0=.int .i64 k/\k<=65536/\Hid (d.length=k)/\Hid (∀ l,st1=some l->k+l.length<=65536)/\Hid (Pk wr R { p with filters:=t })/\Hid (wr.ownsRow w.heap.size 9 1 t.val k (d.map Value.string))/\Hid (Acc text? st d st1)/\Hid (RS w0 wr R st1)/\Hid (BX R isAny w wr)) (fun _ wr=>mlen R wr)
 case atStart =>
  refine⟨[],st,⟨none,0,0⟩,0,rfl,Nat.zero_le _,rfl,fun l hl=>by have:=(uh HL) l hl;omega,?_,World.ownsRow_nil _ _ _ _,Acc.start _ _,uh HS,BX.refl _ _ _⟩
  show Pk _ _ _
  have e:{ p with filters:=⟨none,0,0⟩ }=p:=by rw[<- uh HF]
  rw[e]
  exact uh HP
 case round =>
  obtain⟨d,st1,⟨ta,tn,tc⟩,k,rfl,hk,HD,HB,HPk,HOwn,HAcc,HRS,HBX⟩:=hrel
  obtain⟨ao,m,cap,c19,⟨g1,g2⟩,gl⟩:=(uh HRS).rest
  unfold maxLen at g2
  have c0:=(uh HPk).kind
  simp only at c0
  have cF:wr.cell? ⟨R,17,none⟩=some (.slice ta tn tc):=(uh HPk).filters
  rw[h10]at c0
  rcases (uh HRS).err with⟨l,rfl,c20⟩ | ⟨rfl,ty,x,c20⟩
  ·have hm:=gl l rfl
   clear gl
   by_cases hm0:m=0
   ·subst hm0
    obtain rfl:l=[]:=List.length_eq_zero_iff.1 hm
    go_wp2_with fail
    refine (mayCount_any k _).mono ?_
    rintro e wa ⟨rfl,hwa⟩
    obtain rfl:=hwa.symm
    clear hwa
    go_wp2_with fail
    refine (must_any R _ (some []) w0 wr (uh HRS)).mono ?_
    rintro e wb ⟨rfl,h2,hx2⟩
    have H2:=zh h2
    have HX2:=zh hx2
    clear h2 hx2
    go_wp2
    go_end0
    refine⟨rfl,⟨ta,tn,tc⟩,d,_,(uh HPk).bx (uh HX2),?_,?_,uh H2,(uh HBX).trans (uh HX2).any⟩
    ·show World.ownsRow _ _ _ _ _ _ _
     rw[uh HD]
     exact owns_bx (uh HOwn) (uh HX2) hlt
    ·refine ((uh HAcc).done (.inr rfl)).bind ((?_:Stp (mustR (mc d.length)) (some []) () (if mc k then (some []) else none)).bind (Stp.pure _ _))
     rw[uh HD]
     exact Stp.must _ _
   ·have hl0:l≠[]:=fun e=>hm0 (by rw[<- hm,e];rfl)
    have hbd:=bel_drew wr
    obtain⟨X,hXd⟩:∃ X:Nat->Prop,X=fun g=>g=R\/some g=(Value.slice ta tn tc).ownBlock:=⟨_,rfl⟩
    have HRSd:Hid (RSX w0 wr.drew R X (some l)):=by
     subst hXd
     exact ((uh HRS).below hbd).good _ ⟨.inl rfl,fun g hg=>by
      rcases hg with rfl | hg
      ·exact Nat.lt_of_lt_of_le hlt (uh HBX).size
      ·exact ((uh HOwn).lt g hg.symm).2⟩
    have HPd:=zh ((uh HPk).below hbd)
    have HBXd:Hid (BX R isAny w wr.drew):=(uh HBX).trans (BX.of_below hbd (uh HRS).lt)
    have HOd:Hid (wr.drew.ownsRow w.heap.size 9 1 (.slice ta tn tc) k (d.map Value.string)):=owns_below (uh HOwn) hbd
    clear hbd
    go_wp2_with fail
    refine wp_region_noPanic ?_
    refine wp_region_held_drew (S:=fun _=>True) (by kernel_rfl) trivial (fun hHeld=>?_)
    refine rtk 0 (h:=?_)
    refine rtk 1 (h:=?_)
    refine rtk 2 (h:=?_)
    refine rtk 3 (h:=?_)
    refine rtk 5 (h:=?_)
    refine wpAnyH_ready (rs:=[4,6]) (by kernel_rfl) (by simp) ?_
    refine rac (h:=fun K hK=>?ra) (hs:=(rac (h:=fun K hK=>?rb) (hs:=AllReadyH.nil)))
    case' ra =>
     go_simp
     refine hK.out _ _ trivial (fun hHeld=>?_)
     clear hK K
     refine rcl 6 (h:=fun K hK=>?_)
     go_simp
     refine (text_anyX R X (some l) w0 _ (uh HRSd)).mono ?_
     rintro e w2 ⟨x,st2,rfl,-,hs2,h2,hx2⟩
     have cF2:w2.cell? ⟨R,17,none⟩=some (.slice ta tn tc):=(hx2.cell 17 (by unfold isRE;omega)).trans cF
     have hs2l:w.heap.size<=w2.heap.size:=Nat.le_trans (uh HBX).size hx2.size
     have HP2:=zh ((uh HPd).bx hx2)
     have HRS2:=zh h2
     have HST2:=zh hs2
     have HBX2:Hid (BX R isAny w w2):=(uh HBXd).trans hx2.any
     have HO2:Hid (w2.ownsRow w.heap.size 9 1 (.slice ta tn tc) k (d.map Value.string)):=owns_bx (uh HOd) hx2 hlt
     have hR2:R < w2.heap.size:=Nat.lt_of_lt_of_le hlt hs2l
     have cF3:(w2.alloc (.cells #[.string x] 9)).cell? ⟨R,17,none⟩=some (.slice ta tn tc):=(World.cell?_alloc_lt _ _ ⟨R,17,none⟩ hR2).trans cF2
     clear hx2 h2 hs2
     refine hK.out _ _ trivial (fun hHeld=>?_)
     clear hK K
     refine rcl 7 (h:=fun K hK=>?_)
     go_simp
     refine hK.out _ _ trivial (fun hHeld=>?_)
     clear hK K
    case' rb =>
     go_simp
     refine (text_anyX R X (some l) w0 _ (uh HRSd)).mono ?_
     rintro e w2 ⟨x,st2,rfl,-,hs2,h2,hx2⟩
     have cF2:w2.cell? ⟨R,17,none⟩=some (.slice ta tn tc):=(hx2.cell 17 (by unfold isRE;omega)).trans cF
     have hs2l:w.heap.size<=w2.heap.size:=Nat.le_trans (uh HBX).size hx2.size
     have HP2:=zh ((uh HPd).bx hx2)
     have HRS2:=zh h2
     have HST2:=zh hs2
     have HBX2:Hid (BX R isAny w w2):=(uh HBXd).trans hx2.any
     have HO2:Hid (w2.ownsRow w.heap.size 9 1 (.slice ta tn tc) k (d.map Value.string)):=owns_bx (uh HOd) hx2 hlt
     have hR2:R < w2.heap.size:=Nat.lt_of_lt_of_le hlt hs2l
     have cF3:(w2.alloc (.cells #[.string x] 9)).cell? ⟨R,17,none⟩=some (.slice ta tn tc):=(World.cell?_alloc_lt _ _ ⟨R,17,none⟩ hR2).trans cF2
     clear hx2 h2 hs2
     refine hK.out _ _ trivial (fun hHeld=>?_)
     clear hK K
     refine wpAnyH_ready (rs:=[4,7]) (by kernel_rfl) (by simp) ?_
     refine rac (h:=fun K hK=>?rc) (hs:=(rac (h:=fun K hK=>?rd) (hs:=AllReadyH.nil)))
     case' rc =>
      go_simp
      refine hK.out _ _ trivial (fun hHeld=>?_)
      clear hK K
      refine rcl 7 (h:=fun K hK=>?_)
      go_simp
      refine hK.out _ _ trivial (fun hHeld=>?_)
      clear hK K
     case' rd =>
      go_simp
      refine hK.out _ _ trivial (fun hHeld=>?_)
      clear hK K
      refine rcl 4 (h:=fun K hK=>?_)
      go_simp
      refine hK.out _ _ trivial (fun hHeld=>?_)
      clear hK K
    all_goals (
     refine rcl 8 (h:=fun K hK=>?_)
     refine step_append_run (Z:=fun v' w'=>w'.ownsRow w.heap.size 9 1 v' (k+1) ((d.map Value.string)++[.string x])/\(w2.alloc (.cells #[.string x] 9)).grownBy w' (Value.slice ta tn tc).ownBlock) rfl _ _ 25 rfl (.slice ta tn tc) (.slice (some ⟨w2.heap.size,0,none⟩) 1 1) rfl rfl ?hr ?_
     case hr =>
      obtain⟨v4,w4,h1,h2,h3,_⟩:=run_append_own (P:=Tryz.prog) (w:=(w2.alloc (.cells #[.string x] 9))) w.heap.size 25 25 9 i0 _ 1 16 Tryz.underlying25 hi hz0 hz1 hz2 rfl (by decide) (.slice ta tn tc) k _ ((uh HO2).alloc _) ⟨w2.heap.size,0,none⟩ 1 1 [.string x] rfl (one_cell _ _ _) (one_str _) (by unfold maxLen;omega) (by omega) (by simp;omega)
      exact⟨v4,w4,h1,h2,h3⟩
     rintro v4 w4 ⟨hO4,hg4⟩
     have hrow:∀ g,(Value.slice ta tn tc).ownBlock=some g->w.heap.size<=g/\g < wr.heap.size:=fun g hg=>(uh HOwn).lt g hg
     have hrR:(Value.slice ta tn tc).ownBlock≠some R:=fun e=>by have:=(hrow R e).1;omega
     have HP4:Hid (Pk w4 R { p with filters:=⟨ta,tn,tc⟩ }):=((uh HP2).below (bal _ _)).grown hg4 hrR
     have h0w:w0.heap.size<=w.heap.size:=HW0.size
     have HRS4:Hid (RSX w0 w4 R X st2):=((uh HRS2).below (bal _ _)).grown hg4 (fun g hg=>by rw[hXd];exact .inr hg.symm) hrR (fun g hg=>Nat.le_trans h0w (hrow g hg).1)
     have HBX4:Hid (BX R isAny w w4):=((uh HBX2).trans (BX.of_below (bal _ _) hR2)).grown hg4 (fun g hg=>(hrow g hg).1) hlt
     obtain⟨⟨sa,sn,sc⟩,hv4,_⟩:=owns_sl hO4
     have hv4:v4=.slice sa sn sc:=hv4
     subst hv4
     have HO4:=zh hO4
     have cF4:w4.cell? ⟨R,17,none⟩=some (.slice ta tn tc):=(uh HP4).filters
     have fF4:w4.frozen? ⟨R,17,none⟩=false:=(uh HP4).filters_f
     clear hO4 hg4 hrow cF2 cF3 HP2 HRS2 HBX2
     refine hK.out _ _ trivial (fun hHeld=>?_)
     clear hK K
     simp only[Act.put,List.setIfInBounds_toArray,List.set_cons_zero,List.set_cons_succ]
     refine rtk 9 (h:=?_)
     refine rtk 10 (h:=?_)
     refine rcl 11 (h:=fun K hK=>?_)
     go_simp
     refine hK.out _ _ trivial (fun hHeld=>?_)
     clear hK K
     refine wpAnyH_done (by kernel_rfl) ?_ _
     refine NoPanic.normal ?_
     have HRS5:Hid (RS w0 (w4.setCell ⟨R,17,none⟩ (.slice sa sn sc)) R st2):=((uh HRS4).less (fun g=>g=R) rfl (fun g hg=>by rw[hXd];exact .inl hg)).set 17 _ (by decide)
     have HP5:Hid (Pk (w4.setCell ⟨R,17,none⟩ (.slice sa sn sc)) R { p with filters:=⟨sa,sn,sc⟩ }):=(uh HP4).set_filters ⟨sa,sn,sc⟩
     have HBX5:Hid (BX R isAny w (w4.setCell ⟨R,17,none⟩ (.slice sa sn sc))):=(uh HBX4).set 17 _ trivial
     have HO5:Hid ((w4.setCell ⟨R,17,none⟩ (.slice sa sn sc)).ownsRow w.heap.size 9 1 (.slice sa sn sc) (k+1) ((d++[x]).map Value.string)):=by
      show World.ownsRow _ _ _ _ _ _ _
      rw[show ((d++[x]).map Value.string)=(d.map Value.string)++[.string x] from by simp]
      exact owns_bx (uh HO4) ((BX.refl R isAny w4).set 17 _ trivial) hlt
     have HA5:Hid (Acc text? st (d++[x]) st2):=(uh HAcc).step text?_shr (uh HST2) hl0
     have HB5:Hid (∀ l',st2=some l'->(k+1)+l'.length<=65536):=by
      intro l' hl'
      subst hl'
      have h2:=stp_len text?_shr (uh HST2)
      have h3:=(uh HB) l rfl
      omega
     have hM:mlen R (w4.setCell ⟨R,17,none⟩ (.slice sa sn sc)) < mlen R wr:=by
      rw[mlen_some (uh HRS)]
      cases st2 with
      | none=>rw[mlen_none (uh HRS5)];omega
      | some l' =>
       rw[mlen_some (uh HRS5)]
       have:=stp_len text?_shr (uh HST2)
       omega
     have hk1:k+1<=65536:=by
      have h3:=(uh HB) l rfl
      have:=List.length_pos_iff.2 hl0
      omega
     have HD5:Hid ((d++[x]).length=k+1):=by show _=_;rw[List.length_append,uh HD];rfl
     clear HRS4 HP4 HBX4 HO4 cF4 fF4
     go_wp2
     go_roundw
     case rel=>exact⟨d++[x],st2,⟨sa,sn,sc⟩,k+1,by go_num,hk1,HD5,HB5,HP5,HO5,HA5,HRS5,HBX5⟩
     case measure=>exact hM)
  ·clear gl
   go_wp2_with fail
   refine (mayCount_any k _).mono ?_
   rintro e wa ⟨rfl,hwa⟩
   obtain rfl:=hwa.symm
   clear hwa
   go_wp2_with fail
   refine (must_any R _ none w0 wr (uh HRS)).mono ?_
   rintro e wb ⟨rfl,h2,hx2⟩
   have H2:=zh h2
   have HX2:=zh hx2
   clear h2 hx2
   go_wp2
   go_end0
   refine⟨rfl,⟨ta,tn,tc⟩,d,_,(uh HPk).bx (uh HX2),?_,?_,uh H2,(uh HBX).trans (uh HX2).any⟩
   ·show World.ownsRow _ _ _ _ _ _ _
    rw[uh HD]
    exact owns_bx (uh HOwn) (uh HX2) hlt
   ·refine ((uh HAcc).done (.inl rfl)).bind ((?_:Stp (mustR (mc d.length)) none () (if mc k then none else none)).bind (Stp.pure _ _))
    rw[uh HD]
    exact Stp.must _ _
def Listsubs (w0:World) (R:Nat) (p:Pkv) (st:Option (List Int)) (w:World) (e:Ending) (w':World):Prop :=
 e=.returned (.tuple #[])/\∃ (t:Sl) (d:List Sb) (st':Option (List Int)),Pk w' R { p with subs:=t }/\Hid (w'.ownsRow w.heap.size 114 5 t.val d.length (scs d))/\Stp (list? sub?) st d st'/\RS w0 w' R st'/\BX R isAny w w'
theorem list_subs (R:Nat) (p:Pkv) (st:Option (List Int)) (w0 w:World) (h:RS w0 w R st) (hp:Pk w R p) (hF:p.subs=⟨none,0,0⟩) (hl:∀ l,st=some l->l.length<=65536) (h8:p.kind=8):Calls Tryz.prog 57 #[.pointer (some ⟨R,0,none⟩)] w (Listsubs w0 R p st w):=by
 obtain⟨i0,hi,hz0,hz1,hz2⟩:=info_parts infoSub
 have hlt:=h.lt
 have HW0:=h.keep
 have HP:=zh hp
 have HS:=zh h
 have HL:=zh hl
 have HF:=zh hF
 clear hp h hl hF
 go_enter Tryz.func57,Tryz.ntmps57
 go_wp2
 go_loopw [3] (fun c0 wr=>∃ (d:List Sb) (st1:Option (List Int)) (t:Sl) (k:Nat),c0=.int .i64 k/\k<=65536/\Hid (d.length=k)/\Hid (∀ l,st1=some l->k+l.length<=65536)/\Hid (Pk wr R { p with subs:=t })/\Hid (wr.ownsRow w.heap.size 114 5 t.val k (scs d))/\Hid (Acc sub? st d st1)/\Hid (RS w0 wr R st1)/\Hid (BX R isAny w wr)) (fun _ wr=>mlen R wr)
 case atStart =>
  refine⟨[],st,⟨none,0,0⟩,0,rfl,Nat.zero_le _,rfl,fun l hl=>by have:=(uh HL) l hl;omega,?_,World.ownsRow_nil _ _ _ _,Acc.start _ _,uh HS,BX.refl _ _ _⟩
  show Pk _ _ _
  have e:{ p with subs:=⟨none,0,0⟩ }=p:=by rw[<- uh HF]
  rw[e]
  exact uh HP
 case round =>
  obtain⟨d,st1,⟨ta,tn,tc⟩,k,rfl,hk,HD,HB,HPk,HOwn,HAcc,HRS,HBX⟩:=hrel
  obtain⟨ao,m,cap,c19,⟨g1,g2⟩,gl⟩:=(uh HRS).rest
  unfold maxLen at g2
  have c0:=(uh HPk).kind
  simp only at c0
  have cF:wr.cell? ⟨R,16,none⟩=some (.slice ta tn tc):=(uh HPk).subs
  rw[h8]at c0
  rcases (uh HRS).err with⟨l,rfl,c20⟩ | ⟨rfl,ty,x,c20⟩
  ·have hm:=gl l rfl
   clear gl
   by_cases hm0:m=0
   ·subst hm0
    obtain rfl:l=[]:=List.length_eq_zero_iff.1 hm
    go_wp2_with fail
    refine (mayCount_any k _).mono ?_
    rintro e wa ⟨rfl,hwa⟩
    obtain rfl:=hwa.symm
    clear hwa
    go_wp2_with fail
    refine (must_any R _ (some []) w0 wr (uh HRS)).mono ?_
    rintro e wb ⟨rfl,h2,hx2⟩
    have H2:=zh h2
    have HX2:=zh hx2
    clear h2 hx2
    go_wp2
    go_end0
    refine⟨rfl,⟨ta,tn,tc⟩,d,_,(uh HPk).bx (uh HX2),?_,?_,uh H2,(uh HBX).trans (uh HX2).any⟩
    ·show World.ownsRow _ _ _ _ _ _ _
     rw[uh HD]
     exact owns_bx (uh HOwn) (uh HX2) hlt
    ·refine ((uh HAcc).done (.inr rfl)).bind ((?_:Stp (mustR (mc d.length)) (some []) () (if mc k then (some []) else none)).bind (Stp.pure _ _))
     rw[uh HD]
     exact Stp.must _ _
   ·have hl0:l≠[]:=fun e=>hm0 (by rw[<- hm,e];rfl)
    have hbd:=bel_drew wr
    obtain⟨X,hXd⟩:∃ X:Nat->Prop,X=fun g=>g=R\/some g=(Value.slice ta tn tc).ownBlock:=⟨_,rfl⟩
    have HRSd:Hid (RSX w0 wr.drew R X (some l)):=by
     subst hXd
     exact ((uh HRS).below hbd).good _ ⟨.inl rfl,fun g hg=>by
      rcases hg with rfl | hg
      ·exact Nat.lt_of_lt_of_le hlt (uh HBX).size
      ·exact ((uh HOwn).lt g hg.symm).2⟩
    have HPd:=zh ((uh HPk).below hbd)
    have HBXd:Hid (BX R isAny w wr.drew):=(uh HBX).trans (BX.of_below hbd (uh HRS).lt)
    have HOd:Hid (wr.drew.ownsRow w.heap.size 114 5 (.slice ta tn tc) k (scs d)):=owns_below (uh HOwn) hbd
    clear hbd
    go_wp2_with fail
    refine wp_region_noPanic ?_
    refine wp_region_held_drew (S:=fun _=>True) (by kernel_rfl) trivial (fun hHeld=>?_)
    refine rtk 0 (h:=?_)
    refine rtk 1 (h:=?_)
    refine rtk 2 (h:=?_)
    refine rtk 3 (h:=?_)
    refine rtk 5 (h:=?_)
    refine wpAnyH_ready (rs:=[4,6]) (by kernel_rfl) (by simp) ?_
    refine rac (h:=fun K hK=>?ra) (hs:=(rac (h:=fun K hK=>?rb) (hs:=AllReadyH.nil)))
    case' ra =>
     go_simp
     refine hK.out _ _ trivial (fun hHeld=>?_)
     clear hK K
     refine rcl 6 (h:=fun K hK=>?_)
     go_simp
     refine (sub_anyX R X (some l) w0 _ (uh HRSd)).mono ?_
     rintro e w2 ⟨x,st2,rfl,hs2,h2,hx2⟩
     have cF2:w2.cell? ⟨R,16,none⟩=some (.slice ta tn tc):=(hx2.cell 16 (by unfold isRE;omega)).trans cF
     have hs2l:w.heap.size<=w2.heap.size:=Nat.le_trans (uh HBX).size hx2.size
     have HP2:=zh ((uh HPd).bx hx2)
     have HRS2:=zh h2
     have HST2:=zh hs2
     have HBX2:Hid (BX R isAny w w2):=(uh HBXd).trans hx2.any
     have HO2:Hid (w2.ownsRow w.heap.size 114 5 (.slice ta tn tc) k (scs d)):=owns_bx (uh HOd) hx2 hlt
     have hR2:R < w2.heap.size:=Nat.lt_of_lt_of_le hlt hs2l
     have cF3:(w2.alloc (.cells #[.string x.filter,.int .i64 x.qos,.bool x.nolocal,.bool x.aspub,.int .i64 x.handling] 114)).cell? ⟨R,16,none⟩=some (.slice ta tn tc):=(World.cell?_alloc_lt _ _ ⟨R,16,none⟩ hR2).trans cF2
     clear hx2 h2 hs2
     refine hK.out _ _ trivial (fun hHeld=>?_)
     clear hK K
     refine rcl 7 (h:=fun K hK=>?_)
     go_simp
     refine hK.out _ _ trivial (fun hHeld=>?_)
     clear hK K
    case' rb =>
     go_simp
     refine (sub_anyX R X (some l) w0 _ (uh HRSd)).mono ?_
     rintro e w2 ⟨x,st2,rfl,hs2,h2,hx2⟩
     have cF2:w2.cell? ⟨R,16,none⟩=some (.slice ta tn tc):=(hx2.cell 16 (by unfold isRE;omega)).trans cF
     have hs2l:w.heap.size<=w2.heap.size:=Nat.le_trans (uh HBX).size hx2.size
     have HP2:=zh ((uh HPd).bx hx2)
     have HRS2:=zh h2
     have HST2:=zh hs2
     have HBX2:Hid (BX R isAny w w2):=(uh HBXd).trans hx2.any
     have HO2:Hid (w2.ownsRow w.heap.size 114 5 (.slice ta tn tc) k (scs d)):=owns_bx (uh HOd) hx2 hlt
     have hR2:R < w2.heap.size:=Nat.lt_of_lt_of_le hlt hs2l
     have cF3:(w2.alloc (.cells #[.string x.filter,.int .i64 x.qos,.bool x.nolocal,.bool x.aspub,.int .i64 x.handling] 114)).cell? ⟨R,16,none⟩=some (.slice ta tn tc):=(World.cell?_alloc_lt _ _ ⟨R,16,none⟩ hR2).trans cF2
     clear hx2 h2 hs2
     refine hK.out _ _ trivial (fun hHeld=>?_)
     clear hK K
     refine wpAnyH_ready (rs:=[4,7]) (by kernel_rfl) (by simp) ?_
     refine rac (h:=fun K hK=>?rc) (hs:=(rac (h:=fun K hK=>?rd) (hs:=AllReadyH.nil)))
     case' rc =>
      go_simp
      refine hK.out _ _ trivial (fun hHeld=>?_)
      clear hK K
      refine rcl 7 (h:=fun K hK=>?_)
      go_simp
      refine hK.out _ _ trivial (fun hHeld=>?_)
      clear hK K
     case' rd =>
      go_simp
      refine hK.out _ _ trivial (fun hHeld=>?_)
      clear hK K
      refine rcl 4 (h:=fun K hK=>?_)
      go_simp
      refine hK.out _ _ trivial (fun hHeld=>?_)
      clear hK K
    all_goals (
     refine rcl 8 (h:=fun K hK=>?_)
     refine step_append_run (Z:=fun v' w'=>w'.ownsRow w.heap.size 114 5 v' (k+1) ((scs d)++x.cells)/\(w2.alloc (.cells #[.string x.filter,.int .i64 x.qos,.bool x.nolocal,.bool x.aspub,.int .i64 x.handling] 114)).grownBy w' (Value.slice ta tn tc).ownBlock) rfl _ _ 26 rfl (.slice ta tn tc) (.slice (some ⟨w2.heap.size,0,none⟩) 1 1) rfl rfl ?hr ?_
     case hr =>
      obtain⟨v4,w4,h1,h2,h3,_⟩:=run_append_own (P:=Tryz.prog) (w:=(w2.alloc (.cells #[.string x.filter,.int .i64 x.qos,.bool x.nolocal,.bool x.aspub,.int .i64 x.handling] 114))) w.heap.size 26 26 114 i0 _ 5 40 Tryz.underlying26 hi hz0 hz1 hz2 rfl (by decide) (.slice ta tn tc) k _ ((uh HO2).alloc _) ⟨w2.heap.size,0,none⟩ 1 1 x.cells rfl (five_cell _ _ _ _ _ _ _) (five_one _) (by unfold maxLen;omega) (by omega) (by simp;omega)
      exact⟨v4,w4,h1,h2,h3⟩
     rintro v4 w4 ⟨hO4,hg4⟩
     have hrow:∀ g,(Value.slice ta tn tc).ownBlock=some g->w.heap.size<=g/\g < wr.heap.size:=fun g hg=>(uh HOwn).lt g hg
     have hrR:(Value.slice ta tn tc).ownBlock≠some R:=fun e=>by have:=(hrow R e).1;omega
     have HP4:Hid (Pk w4 R { p with subs:=⟨ta,tn,tc⟩ }):=((uh HP2).below (bal _ _)).grown hg4 hrR
     have h0w:w0.heap.size<=w.heap.size:=HW0.size
     have HRS4:Hid (RSX w0 w4 R X st2):=((uh HRS2).below (bal _ _)).grown hg4 (fun g hg=>by rw[hXd];exact .inr hg.symm) hrR (fun g hg=>Nat.le_trans h0w (hrow g hg).1)
     have HBX4:Hid (BX R isAny w w4):=((uh HBX2).trans (BX.of_below (bal _ _) hR2)).grown hg4 (fun g hg=>(hrow g hg).1) hlt
     obtain⟨⟨sa,sn,sc⟩,hv4,_⟩:=owns_sl hO4
     have hv4:v4=.slice sa sn sc:=hv4
     subst hv4
     have HO4:=zh hO4
     have cF4:w4.cell? ⟨R,16,none⟩=some (.slice ta tn tc):=(uh HP4).subs
     have fF4:w4.frozen? ⟨R,16,none⟩=false:=(uh HP4).subs_f
     clear hO4 hg4 hrow cF2 cF3 HP2 HRS2 HBX2
     refine hK.out _ _ trivial (fun hHeld=>?_)
     clear hK K
     simp only[Act.put,List.setIfInBounds_toArray,List.set_cons_zero,List.set_cons_succ]
     refine rtk 9 (h:=?_)
     refine rtk 10 (h:=?_)
     refine rcl 11 (h:=fun K hK=>?_)
     go_simp
     refine hK.out _ _ trivial (fun hHeld=>?_)
     clear hK K
     refine wpAnyH_done (by kernel_rfl) ?_ _
     refine NoPanic.normal ?_
     have HRS5:Hid (RS w0 (w4.setCell ⟨R,16,none⟩ (.slice sa sn sc)) R st2):=((uh HRS4).less (fun g=>g=R) rfl (fun g hg=>by rw[hXd];exact .inl hg)).set 16 _ (by decide)
     have HP5:Hid (Pk (w4.setCell ⟨R,16,none⟩ (.slice sa sn sc)) R { p with subs:=⟨sa,sn,sc⟩ }):=(uh HP4).set_subs ⟨sa,sn,sc⟩
     have HBX5:Hid (BX R isAny w (w4.setCell ⟨R,16,none⟩ (.slice sa sn sc))):=(uh HBX4).set 16 _ trivial
     have HO5:Hid ((w4.setCell ⟨R,16,none⟩ (.slice sa sn sc)).ownsRow w.heap.size 114 5 (.slice sa sn sc) (k+1) (scs (d++[x]))):=by
      show World.ownsRow _ _ _ _ _ _ _
      rw[show (scs (d++[x]))=(scs d)++x.cells from by rw[scs_app]]
      exact owns_bx (uh HO4) ((BX.refl R isAny w4).set 16 _ trivial) hlt
     have HA5:Hid (Acc sub? st (d++[x]) st2):=(uh HAcc).step sub?_shr (uh HST2) hl0
     have HB5:Hid (∀ l',st2=some l'->(k+1)+l'.length<=65536):=by
      intro l' hl'
      subst hl'
      have h2:=stp_len sub?_shr (uh HST2)
      have h3:=(uh HB) l rfl
      omega
     have hM:mlen R (w4.setCell ⟨R,16,none⟩ (.slice sa sn sc)) < mlen R wr:=by
      rw[mlen_some (uh HRS)]
      cases st2 with
      | none=>rw[mlen_none (uh HRS5)];omega
      | some l' =>
       rw[mlen_some (uh HRS5)]
       have:=stp_len sub?_shr (uh HST2)
       omega
     have hk1:k+1<=65536:=by
      have h3:=(uh HB) l rfl
      have:=List.length_pos_iff.2 hl0
      omega
     have HD5:Hid ((d++[x]).length=k+1):=by show _=_;rw[List.length_append,uh HD];rfl
     clear HRS4 HP4 HBX4 HO4 cF4 fF4
     go_wp2
     go_roundw
     case rel=>exact⟨d++[x],st2,⟨sa,sn,sc⟩,k+1,by go_num,hk1,HD5,HB5,HP5,HO5,HA5,HRS5,HBX5⟩
     case measure=>exact hM)
  ·clear gl
   go_wp2_with fail
   refine (mayCount_any k _).mono ?_
   rintro e wa ⟨rfl,hwa⟩
   obtain rfl:=hwa.symm
   clear hwa
   go_wp2_with fail
   refine (must_any R _ none w0 wr (uh HRS)).mono ?_
   rintro e wb ⟨rfl,h2,hx2⟩
   have H2:=zh h2
   have HX2:=zh hx2
   clear h2 hx2
   go_wp2
   go_end0
   refine⟨rfl,⟨ta,tn,tc⟩,d,_,(uh HPk).bx (uh HX2),?_,?_,uh H2,(uh HBX).trans (uh HX2).any⟩
   ·show World.ownsRow _ _ _ _ _ _ _
    rw[uh HD]
    exact owns_bx (uh HOwn) (uh HX2) hlt
   ·refine ((uh HAcc).done (.inl rfl)).bind ((?_:Stp (mustR (mc d.length)) none () (if mc k then none else none)).bind (Stp.pure _ _))
    rw[uh HD]
    exact Stp.must _ _
end Go.Proofs.YtpheelbbpiieiaaGreatDoor.K
