/- Proved here: helpers, one text behind the other. -/
import Derived.Test.YtpheelbbpiieiaaGreatDoorZC34
import Derived.Test.YtpheelbbpiieiaaGreatDoorZC33
set_option maxHeartbeats 20000000
namespace Go.Proofs.YtpheelbbpiieiaaGreatDoor.K
open Go.RowKit
set_option maxRecDepth 100000
theorem body_12 (R A:Nat) (d:Bool) (q:Int) (r:Bool) (st:Option (List Int)) (w0:GW) (w:World) (h:RP w0 w R st) (hp:Pk w A (pk0 12 d q r)) (_hA:A≠R) (_hA0:w0.heap.size<=A):Calls Tryz.prog 31 #[.pointer (some ⟨R,0,none⟩),.pointer (some ⟨A,0,none⟩)] w (BodyPg w0 R A (pa0 12 d q r) st w):=by
 have hRw:=h.lt
 have hAw:=hp.lt
 have c0:=hp.kind
 simp only[pk0]at c0
 have HP:=zh hp
 have HS:=zh h
 clear hp h
 go_enter Tryz.func31,Tryz.ntmps31
 go_wp2
 go_end0
 exact⟨rfl,_,pa0 12 d q r,st,uh HP,Stp.pure _ _,uh HS,B2.refl _ _ _,.inr ⟨⟨rfl,rfl,rfl,rfl,rfl,rfl,rfl,rfl,rfl,rfl,rfl,rfl⟩,row0 _ _ _ _,wills0 _ _,row0 _ _ _ _,row0 _ _ _ _,row0 _ _ _ _,row0 _ _ _ _,row0 _ _ _ _⟩⟩
theorem body_13 (R A:Nat) (d:Bool) (q:Int) (r:Bool) (st:Option (List Int)) (w0:GW) (w:World) (h:RP w0 w R st) (hp:Pk w A (pk0 13 d q r)) (_hA:A≠R) (_hA0:w0.heap.size<=A):Calls Tryz.prog 31 #[.pointer (some ⟨R,0,none⟩),.pointer (some ⟨A,0,none⟩)] w (BodyPg w0 R A (pa0 13 d q r) st w):=by
 have hRw:=h.lt
 have hAw:=hp.lt
 have c0:=hp.kind
 simp only[pk0]at c0
 have HP:=zh hp
 have HS:=zh h
 clear hp h
 go_enter Tryz.func31,Tryz.ntmps31
 go_wp2
 go_end0
 exact⟨rfl,_,pa0 13 d q r,st,uh HP,Stp.pure _ _,uh HS,B2.refl _ _ _,.inr ⟨⟨rfl,rfl,rfl,rfl,rfl,rfl,rfl,rfl,rfl,rfl,rfl,rfl⟩,row0 _ _ _ _,wills0 _ _,row0 _ _ _ _,row0 _ _ _ _,row0 _ _ _ _,row0 _ _ _ _,row0 _ _ _ _⟩⟩
theorem body_14 (R A:Nat) (d:Bool) (q:Int) (r:Bool) (st:Option (List Int)) (w0:GW) (w:World) (h:RP w0 w R st) (hp:Pk w A (pk0 14 d q r)) (hA:A≠R) (hA0:w0.heap.size<=A):Calls Tryz.prog 31 #[.pointer (some ⟨R,0,none⟩),.pointer (some ⟨A,0,none⟩)] w (BodyPg w0 R A (pa0 14 d q r) st w):=by
 have hRw:=h.lt
 have hAw:=hp.lt
 have c0:=hp.kind
 simp only[pk0]at c0
 have HP:=zh hp
 have HS:=zh h
 clear hp h
 go_enter Tryz.func31,Tryz.ntmps31
 go_wp2_with fail
 refine (tail_pg R A _ st w0 w (uh HS) (uh HP) hA hA0 rfl rfl).mono ?_
 rintro e w1 ⟨rfl,c,t,x,st1,hp1,hO1,hs1,h1,hb1⟩
 have HP1:=zh hp1
 have HS1:=zh h1
 have HST1:=zh hs1
 have HB1:=zh hb1
 clear hp1 h1 hs1 hb1
 go_wp2
 go_end0
 exact⟨rfl,_,{ pa0 14 d q r with code:=c,props:=x },st1,uh HP1,Stp.bind (g:=fun (r':Int×List Pr)=>pureR ({ pa0 14 d q r with code:=r'.1,props:=r'.2 }:Pa)) (uh HST1) (Stp.pure _ _),uh HS1,uh HB1,.inr ⟨⟨rfl,rfl,rfl,rfl,rfl,rfl,rfl,rfl,rfl,rfl,rfl,rfl⟩,uh hO1,wills0 _ _,row0 _ _ _ _,row0 _ _ _ _,row0 _ _ _ _,row0 _ _ _ _,row0 _ _ _ _⟩⟩
theorem body_15 (R A:Nat) (d:Bool) (q:Int) (r:Bool) (st:Option (List Int)) (w0:GW) (w:World) (h:RP w0 w R st) (hp:Pk w A (pk0 15 d q r)) (hA:A≠R) (hA0:w0.heap.size<=A):Calls Tryz.prog 31 #[.pointer (some ⟨R,0,none⟩),.pointer (some ⟨A,0,none⟩)] w (BodyPg w0 R A (pa0 15 d q r) st w):=by
 have hRw:=h.lt
 have hAw:=hp.lt
 have c0:=hp.kind
 simp only[pk0]at c0
 have HP:=zh hp
 have HS:=zh h
 clear hp h
 go_enter Tryz.func31,Tryz.ntmps31
 go_wp2_with fail
 refine (tail_pg R A _ st w0 w (uh HS) (uh HP) hA hA0 rfl rfl).mono ?_
 rintro e w1 ⟨rfl,c,t,x,st1,hp1,hO1,hs1,h1,hb1⟩
 have HP1:=zh hp1
 have HS1:=zh h1
 have HST1:=zh hs1
 have HB1:=zh hb1
 clear hp1 h1 hs1 hb1
 go_wp2
 go_end0
 exact⟨rfl,_,{ pa0 15 d q r with code:=c,props:=x },st1,uh HP1,Stp.bind (g:=fun (r':Int×List Pr)=>pureR ({ pa0 15 d q r with code:=r'.1,props:=r'.2 }:Pa)) (uh HST1) (Stp.pure _ _),uh HS1,uh HB1,.inr ⟨⟨rfl,rfl,rfl,rfl,rfl,rfl,rfl,rfl,rfl,rfl,rfl,rfl⟩,uh hO1,wills0 _ _,row0 _ _ _ _,row0 _ _ _ _,row0 _ _ _ _,row0 _ _ _ _,row0 _ _ _ _⟩⟩
theorem body_4 (R A:Nat) (d:Bool) (q:Int) (r:Bool) (st:Option (List Int)) (w0:GW) (w:World) (h:RP w0 w R st) (hp:Pk w A (pk0 4 d q r)) (hA:A≠R) (hA0:w0.heap.size<=A):Calls Tryz.prog 31 #[.pointer (some ⟨R,0,none⟩),.pointer (some ⟨A,0,none⟩)] w (BodyPg w0 R A (pa0 4 d q r) st w):=by
 have hRw:=h.lt
 have hAw:=hp.lt
 have c0:=hp.kind
 simp only[pk0]at c0
 have HP:=zh hp
 have HS:=zh h
 clear hp h
 go_enter Tryz.func31,Tryz.ntmps31
 go_wp2_with fail
 refine (pair_pg R st w0 w (uh HS)).mono ?_
 rintro e w2 ⟨i,st2,rfl,hi,hs2,h2,hx2⟩
 have hp2:=(uh HP).oth hx2 hA
 have d5:=hp2.id
 have g5:=hp2.id_f
 simp only[pk0]at d5
 have HP2:=zh (hp2.set_id i)
 have HS2:=zh (h2.set A 5 (.int .i64 i) hA hA0)
 have HB2:Hid (B2 R A w (w2.setCell ⟨A,5,none⟩ (.int .i64 i))):=(B2.bx hx2).set 5 _
 have HST2:=zh (stp_id hs2)
 clear hp2 h2 hx2 hs2 HP HS c0
 go_upto_region 25 with fail
 generalize w2.setCell ⟨A,5,none⟩ (.int .i64 i)=wx at HP2 HS2 HB2 |-
 clear d5 g5
 have e5:=(uh HP2).id
 simp only at e5
 by_cases hi0:i=0
 ·rw[if_pos hi0]at HST2
  have hib:(i == 0)=true:=by simpa using hi0
  clear hi0
  obtain⟨bb,c2,f2,_⟩:=(uh HS2).c2
  have HS3:=zh (uh HS2).bad
  have HP3:=zh ((uh HP2).blk (w':=wx.setCell ⟨R,2,none⟩ (.bool true)) (Below.heap_setCell _ _ _ _ hA))
  have HB3:Hid (B2 R A w (wx.setCell ⟨R,2,none⟩ (.bool true))):=(uh HB2).setR 2 _
  go_wp2_with fail
  refine (tail_pg R A _ _ w0 _ (uh HS3) (uh HP3) hA hA0 rfl rfl).mono ?_
  rintro e w3 ⟨rfl,c,t,x,st3,hp3,hO3,hs3,h3,hb3⟩
  have HP4:=zh hp3
  have HS4:=zh h3
  have HST4:=zh hs3
  have HB4:Hid (B2 R A w w3):=(uh HB3).trans hb3
  have hwx:w.heap.size<=(wx.setCell ⟨R,2,none⟩ (.bool true)).heap.size:=(uh HB3).size
  clear hp3 h3 hs3 hb3
  go_wp2
  go_end0
  exact⟨rfl,_,{ pa0 4 d q r with id:=i,code:=c,props:=x },st3,uh HP4,Stp.bind (g:=fun (i:Int)=>bindR (reason? 4) fun (r':Int×List Pr)=>pureR ({ pa0 4 d q r with id:=i,code:=r'.1,props:=r'.2 }:Pa)) (uh HST2) (Stp.bind (g:=fun (r':Int×List Pr)=>pureR ({ pa0 4 d q r with id:=i,code:=r'.1,props:=r'.2 }:Pa)) (uh HST4) (Stp.pure _ _)),uh HS4,uh HB4,.inr ⟨⟨rfl,rfl,rfl,rfl,rfl,rfl,rfl,rfl,rfl,rfl,rfl,rfl⟩,owns_mono (uh hO3) hwx,wills0 _ _,row0 _ _ _ _,row0 _ _ _ _,row0 _ _ _ _,row0 _ _ _ _,row0 _ _ _ _⟩⟩
 ·rw[if_neg hi0]at HST2
  have hib:(i == 0)=false:=by simpa using hi0
  have HS3:=HS2
  have HP3:=HP2
  have HB3:=HB2
  go_wp2_with fail
  refine (tail_pg R A _ _ w0 _ (uh HS3) (uh HP3) hA hA0 rfl rfl).mono ?_
  rintro e w3 ⟨rfl,c,t,x,st3,hp3,hO3,hs3,h3,hb3⟩
  have HP4:=zh hp3
  have HS4:=zh h3
  have HST4:=zh hs3
  have HB4:Hid (B2 R A w w3):=(uh HB3).trans hb3
  have hwx:w.heap.size<=wx.heap.size:=(uh HB3).size
  clear hp3 h3 hs3 hb3
  go_wp2
  go_end0
  exact⟨rfl,_,{ pa0 4 d q r with id:=i,code:=c,props:=x },st3,uh HP4,Stp.bind (g:=fun (i:Int)=>bindR (reason? 4) fun (r':Int×List Pr)=>pureR ({ pa0 4 d q r with id:=i,code:=r'.1,props:=r'.2 }:Pa)) (uh HST2) (Stp.bind (g:=fun (r':Int×List Pr)=>pureR ({ pa0 4 d q r with id:=i,code:=r'.1,props:=r'.2 }:Pa)) (uh HST4) (Stp.pure _ _)),uh HS4,uh HB4,.inr ⟨⟨rfl,rfl,rfl,rfl,rfl,rfl,rfl,rfl,rfl,rfl,rfl,rfl⟩,owns_mono (uh hO3) hwx,wills0 _ _,row0 _ _ _ _,row0 _ _ _ _,row0 _ _ _ _,row0 _ _ _ _,row0 _ _ _ _⟩⟩
theorem body_5 (R A:Nat) (d:Bool) (q:Int) (r:Bool) (st:Option (List Int)) (w0:GW) (w:World) (h:RP w0 w R st) (hp:Pk w A (pk0 5 d q r)) (hA:A≠R) (hA0:w0.heap.size<=A):Calls Tryz.prog 31 #[.pointer (some ⟨R,0,none⟩),.pointer (some ⟨A,0,none⟩)] w (BodyPg w0 R A (pa0 5 d q r) st w):=by
 have hRw:=h.lt
 have hAw:=hp.lt
 have c0:=hp.kind
 simp only[pk0]at c0
 have HP:=zh hp
 have HS:=zh h
 clear hp h
 go_enter Tryz.func31,Tryz.ntmps31
 go_wp2_with fail
 refine (pair_pg R st w0 w (uh HS)).mono ?_
 rintro e w2 ⟨i,st2,rfl,hi,hs2,h2,hx2⟩
 have hp2:=(uh HP).oth hx2 hA
 have d5:=hp2.id
 have g5:=hp2.id_f
 simp only[pk0]at d5
 have HP2:=zh (hp2.set_id i)
 have HS2:=zh (h2.set A 5 (.int .i64 i) hA hA0)
 have HB2:Hid (B2 R A w (w2.setCell ⟨A,5,none⟩ (.int .i64 i))):=(B2.bx hx2).set 5 _
 have HST2:=zh (stp_id hs2)
 clear hp2 h2 hx2 hs2 HP HS c0
 go_upto_region 25 with fail
 generalize w2.setCell ⟨A,5,none⟩ (.int .i64 i)=wx at HP2 HS2 HB2 |-
 clear d5 g5
 have e5:=(uh HP2).id
 simp only at e5
 by_cases hi0:i=0
 ·rw[if_pos hi0]at HST2
  have hib:(i == 0)=true:=by simpa using hi0
  clear hi0
  obtain⟨bb,c2,f2,_⟩:=(uh HS2).c2
  have HS3:=zh (uh HS2).bad
  have HP3:=zh ((uh HP2).blk (w':=wx.setCell ⟨R,2,none⟩ (.bool true)) (Below.heap_setCell _ _ _ _ hA))
  have HB3:Hid (B2 R A w (wx.setCell ⟨R,2,none⟩ (.bool true))):=(uh HB2).setR 2 _
  go_wp2_with fail
  refine (tail_pg R A _ _ w0 _ (uh HS3) (uh HP3) hA hA0 rfl rfl).mono ?_
  rintro e w3 ⟨rfl,c,t,x,st3,hp3,hO3,hs3,h3,hb3⟩
  have HP4:=zh hp3
  have HS4:=zh h3
  have HST4:=zh hs3
  have HB4:Hid (B2 R A w w3):=(uh HB3).trans hb3
  have hwx:w.heap.size<=(wx.setCell ⟨R,2,none⟩ (.bool true)).heap.size:=(uh HB3).size
  clear hp3 h3 hs3 hb3
  go_wp2
  go_end0
  exact⟨rfl,_,{ pa0 5 d q r with id:=i,code:=c,props:=x },st3,uh HP4,Stp.bind (g:=fun (i:Int)=>bindR (reason? 5) fun (r':Int×List Pr)=>pureR ({ pa0 5 d q r with id:=i,code:=r'.1,props:=r'.2 }:Pa)) (uh HST2) (Stp.bind (g:=fun (r':Int×List Pr)=>pureR ({ pa0 5 d q r with id:=i,code:=r'.1,props:=r'.2 }:Pa)) (uh HST4) (Stp.pure _ _)),uh HS4,uh HB4,.inr ⟨⟨rfl,rfl,rfl,rfl,rfl,rfl,rfl,rfl,rfl,rfl,rfl,rfl⟩,owns_mono (uh hO3) hwx,wills0 _ _,row0 _ _ _ _,row0 _ _ _ _,row0 _ _ _ _,row0 _ _ _ _,row0 _ _ _ _⟩⟩
 ·rw[if_neg hi0]at HST2
  have hib:(i == 0)=false:=by simpa using hi0
  have HS3:=HS2
  have HP3:=HP2
  have HB3:=HB2
  go_wp2_with fail
  refine (tail_pg R A _ _ w0 _ (uh HS3) (uh HP3) hA hA0 rfl rfl).mono ?_
  rintro e w3 ⟨rfl,c,t,x,st3,hp3,hO3,hs3,h3,hb3⟩
  have HP4:=zh hp3
  have HS4:=zh h3
  have HST4:=zh hs3
  have HB4:Hid (B2 R A w w3):=(uh HB3).trans hb3
  have hwx:w.heap.size<=wx.heap.size:=(uh HB3).size
  clear hp3 h3 hs3 hb3
  go_wp2
  go_end0
  exact⟨rfl,_,{ pa0 5 d q r with id:=i,code:=c,props:=x },st3,uh HP4,Stp.bind (g:=fun (i:Int)=>bindR (reason? 5) fun (r':Int×List Pr)=>pureR ({ pa0 5 d q r with id:=i,code:=r'.1,props:=r'.2 }:Pa)) (uh HST2) (Stp.bind (g:=fun (r':Int×List Pr)=>pureR ({ pa0 5 d q r with id:=i,code:=r'.1,props:=r'.2 }:Pa)) (uh HST4) (Stp.pure _ _)),uh HS4,uh HB4,.inr ⟨⟨rfl,rfl,rfl,rfl,rfl,rfl,rfl,rfl,rfl,rfl,rfl,rfl⟩,owns_mono (uh hO3) hwx,wills0 _ _,row0 _ _ _ _,row0 _ _ _ _,row0 _ _ _ _,row0 _ _ _ _,row0 _ _ _ _⟩⟩
theorem body_6 (R A:Nat) (d:Bool) (q:Int) (r:Bool) (st:Option (List Int)) (w0:GW) (w:World) (h:RP w0 w R st) (hp:Pk w A (pk0 6 d q r)) (hA:A≠R) (hA0:w0.heap.size<=A):Calls Tryz.prog 31 #[.pointer (some ⟨R,0,none⟩),.pointer (some ⟨A,0,none⟩)] w (BodyPg w0 R A (pa0 6 d q r) st w):=by
 have hRw:=h.lt
 have hAw:=hp.lt
 have c0:=hp.kind
 simp only[pk0]at c0
 have HP:=zh hp
 have HS:=zh h
 clear hp h
 go_enter Tryz.func31,Tryz.ntmps31
 go_wp2_with fail
 refine (pair_pg R st w0 w (uh HS)).mono ?_
 rintro e w2 ⟨i,st2,rfl,hi,hs2,h2,hx2⟩
 have hp2:=(uh HP).oth hx2 hA
 have d5:=hp2.id
 have g5:=hp2.id_f
 simp only[pk0]at d5
 have HP2:=zh (hp2.set_id i)
 have HS2:=zh (h2.set A 5 (.int .i64 i) hA hA0)
 have HB2:Hid (B2 R A w (w2.setCell ⟨A,5,none⟩ (.int .i64 i))):=(B2.bx hx2).set 5 _
 have HST2:=zh (stp_id hs2)
 clear hp2 h2 hx2 hs2 HP HS c0
 go_upto_region 25 with fail
 generalize w2.setCell ⟨A,5,none⟩ (.int .i64 i)=wx at HP2 HS2 HB2 |-
 clear d5 g5
 have e5:=(uh HP2).id
 simp only at e5
 by_cases hi0:i=0
 ·rw[if_pos hi0]at HST2
  have hib:(i == 0)=true:=by simpa using hi0
  clear hi0
  obtain⟨bb,c2,f2,_⟩:=(uh HS2).c2
  have HS3:=zh (uh HS2).bad
  have HP3:=zh ((uh HP2).blk (w':=wx.setCell ⟨R,2,none⟩ (.bool true)) (Below.heap_setCell _ _ _ _ hA))
  have HB3:Hid (B2 R A w (wx.setCell ⟨R,2,none⟩ (.bool true))):=(uh HB2).setR 2 _
  go_wp2_with fail
  refine (tail_pg R A _ _ w0 _ (uh HS3) (uh HP3) hA hA0 rfl rfl).mono ?_
  rintro e w3 ⟨rfl,c,t,x,st3,hp3,hO3,hs3,h3,hb3⟩
  have HP4:=zh hp3
  have HS4:=zh h3
  have HST4:=zh hs3
  have HB4:Hid (B2 R A w w3):=(uh HB3).trans hb3
  have hwx:w.heap.size<=(wx.setCell ⟨R,2,none⟩ (.bool true)).heap.size:=(uh HB3).size
  clear hp3 h3 hs3 hb3
  go_wp2
  go_end0
  exact⟨rfl,_,{ pa0 6 d q r with id:=i,code:=c,props:=x },st3,uh HP4,Stp.bind (g:=fun (i:Int)=>bindR (reason? 6) fun (r':Int×List Pr)=>pureR ({ pa0 6 d q r with id:=i,code:=r'.1,props:=r'.2 }:Pa)) (uh HST2) (Stp.bind (g:=fun (r':Int×List Pr)=>pureR ({ pa0 6 d q r with id:=i,code:=r'.1,props:=r'.2 }:Pa)) (uh HST4) (Stp.pure _ _)),uh HS4,uh HB4,.inr ⟨⟨rfl,rfl,rfl,rfl,rfl,rfl,rfl,rfl,rfl,rfl,rfl,rfl⟩,owns_mono (uh hO3) hwx,wills0 _ _,row0 _ _ _ _,row0 _ _ _ _,row0 _ _ _ _,row0 _ _ _ _,row0 _ _ _ _⟩⟩
 ·rw[if_neg hi0]at HST2
  have hib:(i == 0)=false:=by simpa using hi0
  have HS3:=HS2
  have HP3:=HP2
  have HB3:=HB2
  go_wp2_with fail
  refine (tail_pg R A _ _ w0 _ (uh HS3) (uh HP3) hA hA0 rfl rfl).mono ?_
  rintro e w3 ⟨rfl,c,t,x,st3,hp3,hO3,hs3,h3,hb3⟩
  have HP4:=zh hp3
  have HS4:=zh h3
  have HST4:=zh hs3
  have HB4:Hid (B2 R A w w3):=(uh HB3).trans hb3
  have hwx:w.heap.size<=wx.heap.size:=(uh HB3).size
  clear hp3 h3 hs3 hb3
  go_wp2
  go_end0
  exact⟨rfl,_,{ pa0 6 d q r with id:=i,code:=c,props:=x },st3,uh HP4,Stp.bind (g:=fun (i:Int)=>bindR (reason? 6) fun (r':Int×List Pr)=>pureR ({ pa0 6 d q r with id:=i,code:=r'.1,props:=r'.2 }:Pa)) (uh HST2) (Stp.bind (g:=fun (r':Int×List Pr)=>pureR ({ pa0 6 d q r with id:=i,code:=r'.1,props:=r'.2 }:Pa)) (uh HST4) (Stp.pure _ _)),uh HS4,uh HB4,.inr ⟨⟨rfl,rfl,rfl,rfl,rfl,rfl,rfl,rfl,rfl,rfl,rfl,rfl⟩,owns_mono (uh hO3) hwx,wills0 _ _,row0 _ _ _ _,row0 _ _ _ _,row0 _ _ _ _,row0 _ _ _ _,row0 _ _ _ _⟩⟩
theorem body_7 (R A:Nat) (d:Bool) (q:Int) (r:Bool) (st:Option (List Int)) (w0:GW) (w:World) (h:RP w0 w R st) (hp:Pk w A (pk0 7 d q r)) (hA:A≠R) (hA0:w0.heap.size<=A):Calls Tryz.prog 31 #[.pointer (some ⟨R,0,none⟩),.pointer (some ⟨A,0,none⟩)] w (BodyPg w0 R A (pa0 7 d q r) st w):=by
 have hRw:=h.lt
 have hAw:=hp.lt
 have c0:=hp.kind
 simp only[pk0]at c0
 have HP:=zh hp
 have HS:=zh h
 clear hp h
 go_enter Tryz.func31,Tryz.ntmps31
 go_wp2_with fail
 refine (pair_pg R st w0 w (uh HS)).mono ?_
 rintro e w2 ⟨i,st2,rfl,hi,hs2,h2,hx2⟩
 have hp2:=(uh HP).oth hx2 hA
 have d5:=hp2.id
 have g5:=hp2.id_f
 simp only[pk0]at d5
 have HP2:=zh (hp2.set_id i)
 have HS2:=zh (h2.set A 5 (.int .i64 i) hA hA0)
 have HB2:Hid (B2 R A w (w2.setCell ⟨A,5,none⟩ (.int .i64 i))):=(B2.bx hx2).set 5 _
 have HST2:=zh (stp_id hs2)
 clear hp2 h2 hx2 hs2 HP HS c0
 go_upto_region 25 with fail
 generalize w2.setCell ⟨A,5,none⟩ (.int .i64 i)=wx at HP2 HS2 HB2 |-
 clear d5 g5
 have e5:=(uh HP2).id
 simp only at e5
 by_cases hi0:i=0
 ·rw[if_pos hi0]at HST2
  have hib:(i == 0)=true:=by simpa using hi0
  clear hi0
  obtain⟨bb,c2,f2,_⟩:=(uh HS2).c2
  have HS3:=zh (uh HS2).bad
  have HP3:=zh ((uh HP2).blk (w':=wx.setCell ⟨R,2,none⟩ (.bool true)) (Below.heap_setCell _ _ _ _ hA))
  have HB3:Hid (B2 R A w (wx.setCell ⟨R,2,none⟩ (.bool true))):=(uh HB2).setR 2 _
  go_wp2_with fail
  refine (tail_pg R A _ _ w0 _ (uh HS3) (uh HP3) hA hA0 rfl rfl).mono ?_
  rintro e w3 ⟨rfl,c,t,x,st3,hp3,hO3,hs3,h3,hb3⟩
  have HP4:=zh hp3
  have HS4:=zh h3
  have HST4:=zh hs3
  have HB4:Hid (B2 R A w w3):=(uh HB3).trans hb3
  have hwx:w.heap.size<=(wx.setCell ⟨R,2,none⟩ (.bool true)).heap.size:=(uh HB3).size
  clear hp3 h3 hs3 hb3
  go_wp2
  go_end0
  exact⟨rfl,_,{ pa0 7 d q r with id:=i,code:=c,props:=x },st3,uh HP4,Stp.bind (g:=fun (i:Int)=>bindR (reason? 7) fun (r':Int×List Pr)=>pureR ({ pa0 7 d q r with id:=i,code:=r'.1,props:=r'.2 }:Pa)) (uh HST2) (Stp.bind (g:=fun (r':Int×List Pr)=>pureR ({ pa0 7 d q r with id:=i,code:=r'.1,props:=r'.2 }:Pa)) (uh HST4) (Stp.pure _ _)),uh HS4,uh HB4,.inr ⟨⟨rfl,rfl,rfl,rfl,rfl,rfl,rfl,rfl,rfl,rfl,rfl,rfl⟩,owns_mono (uh hO3) hwx,wills0 _ _,row0 _ _ _ _,row0 _ _ _ _,row0 _ _ _ _,row0 _ _ _ _,row0 _ _ _ _⟩⟩
 ·rw[if_neg hi0]at HST2
  have hib:(i == 0)=false:=by simpa using hi0
  have HS3:=HS2
  have HP3:=HP2
  have HB3:=HB2
  go_wp2_with fail
  refine (tail_pg R A _ _ w0 _ (uh HS3) (uh HP3) hA hA0 rfl rfl).mono ?_
  rintro e w3 ⟨rfl,c,t,x,st3,hp3,hO3,hs3,h3,hb3⟩
  have HP4:=zh hp3
  have HS4:=zh h3
  have HST4:=zh hs3
  have HB4:Hid (B2 R A w w3):=(uh HB3).trans hb3
  have hwx:w.heap.size<=wx.heap.size:=(uh HB3).size
  clear hp3 h3 hs3 hb3
  go_wp2
  go_end0
  exact⟨rfl,_,{ pa0 7 d q r with id:=i,code:=c,props:=x },st3,uh HP4,Stp.bind (g:=fun (i:Int)=>bindR (reason? 7) fun (r':Int×List Pr)=>pureR ({ pa0 7 d q r with id:=i,code:=r'.1,props:=r'.2 }:Pa)) (uh HST2) (Stp.bind (g:=fun (r':Int×List Pr)=>pureR ({ pa0 7 d q r with id:=i,code:=r'.1,props:=r'.2 }:Pa)) (uh HST4) (Stp.pure _ _)),uh HS4,uh HB4,.inr ⟨⟨rfl,rfl,rfl,rfl,rfl,rfl,rfl,rfl,rfl,rfl,rfl,rfl⟩,owns_mono (uh hO3) hwx,wills0 _ _,row0 _ _ _ _,row0 _ _ _ _,row0 _ _ _ _,row0 _ _ _ _,row0 _ _ _ _⟩⟩
theorem body_8 (R A:Nat) (d:Bool) (q:Int) (r:Bool) (st:Option (List Int)) (w0:GW) (w:World) (h:RP w0 w R st) (hp:Pk w A (pk0 8 d q r)) (hA:A≠R) (hA0:w0.heap.size<=A) (hl:∀ l,st=some l->l.length<=65536):Calls Tryz.prog 31 #[.pointer (some ⟨R,0,none⟩),.pointer (some ⟨A,0,none⟩)] w (BodyPg w0 R A (pa0 8 d q r) st w):=by
 have hRw:=h.lt
 have hAw:=hp.lt
 have c0:=hp.kind
 simp only[pk0]at c0
 have HP:=zh hp
 have HS:=zh h
 clear hp h
 go_enter Tryz.func31,Tryz.ntmps31
 go_wp2_with fail
 refine (lists_subs R A _ st w0 w (uh HS) (uh HP) hA hA0 rfl hl rfl).mono ?_
 rintro e w1 ⟨rfl,i,s,x,t,dd,st1,hp1,hO1,hO2,hs1,h1,hb1⟩
 have HP1:=zh hp1
 have HS1:=zh h1
 have HST1:=zh hs1
 have HB1:=zh hb1
 clear hp1 h1 hs1 hb1
 go_wp2
 go_end0
 have k1:Stp (body? (pa0 8 d q r)) st { pa0 8 d q r with id:=i,props:=x,subs:=dd } st1:=Stp.congr (pglist_eq 8 sub? fun i x dd=>({ pa0 8 d q r with id:=i,props:=x,subs:=dd }:Pa)) (Stp.bind (g:=fun (r':Int×List Pr×List Sb)=>pureR ({ pa0 8 d q r with id:=r'.1,props:=r'.2.1,subs:=r'.2.2 }:Pa)) (uh HST1) (Stp.pure _ _))
 exact⟨rfl,_,_,st1,uh HP1,k1,uh HS1,uh HB1,.inr ⟨⟨rfl,rfl,rfl,rfl,rfl,rfl,rfl,rfl,rfl,rfl,rfl,rfl⟩,uh hO1,wills0 _ _,row0 _ _ _ _,row0 _ _ _ _,uh hO2,row0 _ _ _ _,row0 _ _ _ _⟩⟩
theorem body_10 (R A:Nat) (d:Bool) (q:Int) (r:Bool) (st:Option (List Int)) (w0:GW) (w:World) (h:RP w0 w R st) (hp:Pk w A (pk0 10 d q r)) (hA:A≠R) (hA0:w0.heap.size<=A) (hl:∀ l,st=some l->l.length<=65536):Calls Tryz.prog 31 #[.pointer (some ⟨R,0,none⟩),.pointer (some ⟨A,0,none⟩)] w (BodyPg w0 R A (pa0 10 d q r) st w):=by
 have hRw:=h.lt
 have hAw:=hp.lt
 have c0:=hp.kind
 simp only[pk0]at c0
 have HP:=zh hp
 have HS:=zh h
 clear hp h
 go_enter Tryz.func31,Tryz.ntmps31
 go_wp2_with fail
 refine (lists_filters R A _ st w0 w (uh HS) (uh HP) hA hA0 rfl hl rfl).mono ?_
 rintro e w1 ⟨rfl,i,s,x,t,dd,st1,hp1,hO1,hO2,hs1,h1,hb1⟩
 have HP1:=zh hp1
 have HS1:=zh h1
 have HST1:=zh hs1
 have HB1:=zh hb1
 clear hp1 h1 hs1 hb1
 go_wp2
 go_end0
 have k1:Stp (body? (pa0 10 d q r)) st { pa0 10 d q r with id:=i,props:=x,filters:=dd } st1:=Stp.congr (pglist_eq 10 text? fun i x dd=>({ pa0 10 d q r with id:=i,props:=x,filters:=dd }:Pa)) (Stp.bind (g:=fun (r':Int×List Pr×List ByteArray)=>pureR ({ pa0 10 d q r with id:=r'.1,props:=r'.2.1,filters:=r'.2.2 }:Pa)) (uh HST1) (Stp.pure _ _))
 exact⟨rfl,_,_,st1,uh HP1,k1,uh HS1,uh HB1,.inr ⟨⟨rfl,rfl,rfl,rfl,rfl,rfl,rfl,rfl,rfl,rfl,rfl,rfl⟩,uh hO1,wills0 _ _,row0 _ _ _ _,row0 _ _ _ _,row0 _ _ _ _,uh hO2,row0 _ _ _ _⟩⟩
theorem body_9 (R A:Nat) (d:Bool) (q:Int) (r:Bool) (st:Option (List Int)) (w0:GW) (w:World) (h:RP w0 w R st) (hp:Pk w A (pk0 9 d q r)) (hA:A≠R) (hA0:w0.heap.size<=A) (hl:∀ l,st=some l->l.length<=65536):Calls Tryz.prog 31 #[.pointer (some ⟨R,0,none⟩),.pointer (some ⟨A,0,none⟩)] w (BodyPg w0 R A (pa0 9 d q r) st w):=by
 have hRw:=h.lt
 have hAw:=hp.lt
 have c0:=hp.kind
 simp only[pk0]at c0
 have HP:=zh hp
 have HS:=zh h
 clear hp h
 go_enter Tryz.func31,Tryz.ntmps31
 go_wp2_with fail
 refine (lists_codes R A _ st w0 w (uh HS) (uh HP) hA hA0 rfl hl (by show (9:Int)≠8;decide) (by show (9:Int)≠10;decide)).mono ?_
 rintro e w1 ⟨rfl,i,s,x,t,dd,st1,hp1,hO1,hO2,hs1,h1,hb1⟩
 have HP1:=zh hp1
 have HS1:=zh h1
 have HST1:=zh hs1
 have HB1:=zh hb1
 clear hp1 h1 hs1 hb1
 go_wp2
 go_end0
 have k1:Stp (body? (pa0 9 d q r)) st { pa0 9 d q r with id:=i,props:=x,codes:=dd } st1:=Stp.congr (pglist_eq 9 one? fun i x dd=>({ pa0 9 d q r with id:=i,props:=x,codes:=dd }:Pa)) (Stp.bind (g:=fun (r':Int×List Pr×List Int)=>pureR ({ pa0 9 d q r with id:=r'.1,props:=r'.2.1,codes:=r'.2.2 }:Pa)) (uh HST1) (Stp.pure _ _))
 exact⟨rfl,_,_,st1,uh HP1,k1,uh HS1,uh HB1,.inr ⟨⟨rfl,rfl,rfl,rfl,rfl,rfl,rfl,rfl,rfl,rfl,rfl,rfl⟩,uh hO1,wills0 _ _,row0 _ _ _ _,row0 _ _ _ _,row0 _ _ _ _,row0 _ _ _ _,uh hO2⟩⟩
theorem body_11 (R A:Nat) (d:Bool) (q:Int) (r:Bool) (st:Option (List Int)) (w0:GW) (w:World) (h:RP w0 w R st) (hp:Pk w A (pk0 11 d q r)) (hA:A≠R) (hA0:w0.heap.size<=A) (hl:∀ l,st=some l->l.length<=65536):Calls Tryz.prog 31 #[.pointer (some ⟨R,0,none⟩),.pointer (some ⟨A,0,none⟩)] w (BodyPg w0 R A (pa0 11 d q r) st w):=by
 have hRw:=h.lt
 have hAw:=hp.lt
 have c0:=hp.kind
 simp only[pk0]at c0
 have HP:=zh hp
 have HS:=zh h
 clear hp h
 go_enter Tryz.func31,Tryz.ntmps31
 go_wp2_with fail
 refine (lists_codes R A _ st w0 w (uh HS) (uh HP) hA hA0 rfl hl (by show (11:Int)≠8;decide) (by show (11:Int)≠10;decide)).mono ?_
 rintro e w1 ⟨rfl,i,s,x,t,dd,st1,hp1,hO1,hO2,hs1,h1,hb1⟩
 have HP1:=zh hp1
 have HS1:=zh h1
 have HST1:=zh hs1
 have HB1:=zh hb1
 clear hp1 h1 hs1 hb1
 go_wp2
 go_end0
 have k1:Stp (body? (pa0 11 d q r)) st { pa0 11 d q r with id:=i,props:=x,codes:=dd } st1:=Stp.congr (pglist_eq 11 one? fun i x dd=>({ pa0 11 d q r with id:=i,props:=x,codes:=dd }:Pa)) (Stp.bind (g:=fun (r':Int×List Pr×List Int)=>pureR ({ pa0 11 d q r with id:=r'.1,props:=r'.2.1,codes:=r'.2.2 }:Pa)) (uh HST1) (Stp.pure _ _))
 exact⟨rfl,_,_,st1,uh HP1,k1,uh HS1,uh HB1,.inr ⟨⟨rfl,rfl,rfl,rfl,rfl,rfl,rfl,rfl,rfl,rfl,rfl,rfl⟩,uh hO1,wills0 _ _,row0 _ _ _ _,row0 _ _ _ _,row0 _ _ _ _,row0 _ _ _ _,uh hO2⟩⟩
theorem body_pg (R A:Nat) (k:Int) (d:Bool) (q:Int) (r:Bool) (st:Option (List Int)) (w0:GW) (w:World) (h:RP w0 w R st) (hp:Pk w A (pk0 k d q r)) (hA:A≠R) (hA0:w0.heap.size<=A) (hk:1<=k/\k<=15) (hq:k=3->0<=q/\q<=2) (hl:∀ l,st=some l->l.length<=65536):Calls Tryz.prog 31 #[.pointer (some ⟨R,0,none⟩),.pointer (some ⟨A,0,none⟩)] w (BodyPg w0 R A (pa0 k d q r) st w):=by
 have hc:k=1\/k=2\/k=3\/k=4\/k=5\/k=6\/k=7\/k=8\/k=9\/k=10\/k=11\/k=12\/k=13\/k=14\/k=15:=by omega
 rcases hc with rfl | rfl | rfl | rfl | rfl | rfl | rfl | rfl | rfl | rfl | rfl | rfl | rfl | rfl | rfl
 ·exact body_1 R A d q r st w0 w h hp hA hA0
 ·exact body_2 R A d q r st w0 w h hp hA hA0
 ·exact body_3 R A d q r st w0 w h hp hA hA0 (hq rfl)
 ·exact body_4 R A d q r st w0 w h hp hA hA0
 ·exact body_5 R A d q r st w0 w h hp hA hA0
 ·exact body_6 R A d q r st w0 w h hp hA hA0
 ·exact body_7 R A d q r st w0 w h hp hA hA0
 ·exact body_8 R A d q r st w0 w h hp hA hA0 hl
 ·exact body_9 R A d q r st w0 w h hp hA hA0 hl
 ·exact body_10 R A d q r st w0 w h hp hA hA0 hl
 ·exact body_11 R A d q r st w0 w h hp hA hA0 hl
 ·exact body_12 R A d q r st w0 w h hp hA hA0
 ·exact body_13 R A d q r st w0 w h hp hA hA0
 ·exact body_14 R A d q r st w0 w h hp hA hA0
 ·exact body_15 R A d q r st w0 w h hp hA hA0
theorem body_b (R A:Nat) (b:Int) (h0:0<=b) (h1:b<=255) (hb:bok b=true) (st:Option (List Int)) (w0:GW) (w:World) (h:RP w0 w R st) (hp:Pk w A (bpk b)) (hA:A≠R) (hA0:w0.heap.size<=A) (hl:∀ l,st=some l->l.length<=65536):Calls Tryz.prog 31 #[.pointer (some ⟨R,0,none⟩),.pointer (some ⟨A,0,none⟩)] w (BodyPg w0 R A (bpa b) st w):=by
 have hk:=bok_kind b h0 h1 hb
 unfold bpk at hp
 unfold bpa
 by_cases h3:b / 16=3
 ·rw[if_pos h3]at hp |-
  have hq:b / 2 % 4<=2:=byte_cases (P:=fun b=>b / 16=3->bok b=true->b / 2 % 4<=2) (by decide +kernel) b h0 h1 h3 hb
  exact body_pg R A 3 _ _ _ st w0 w h hp hA hA0 (by omega) (fun _=>by omega) hl
 ·rw[if_neg h3]at hp |-
  exact body_pg R A (b / 16) _ _ _ st w0 w h hp hA hA0 hk (fun e=>absurd e h3) hl
def BdAt (b:Int):Prop:=∀ (R A:Nat) (st:Option (List Int)) (w0:GW) (w:World),RP w0 w R st->Pk w A (bpk b)->A≠R->w0.heap.size<=A->(∀ l,st=some l->l.length<=65536)->Calls Tryz.prog 31 #[.pointer (some ⟨R,0,none⟩),.pointer (some ⟨A,0,none⟩)] w (BodyPg w0 R A (bpa b) st w)
def pnum (lim:Int) (l:List Int):Int:=if hnum lim l≠0 then hnum lim l else if l.length < 1+ghd (l.drop 1)+(gid (l.drop 1)).toNat then 3 else if (dbody l).isSome then 0 else 1
def PDecPost (lim:Int) (l:List Int) (w:World) (e:Ending) (w':World):Prop :=
 ∃ (q:Pkv) (n:Nat),e=.returned (.tuple #[q.val,.int .i64 n,.int .i64 (pnum lim l)]) /\
  ((pnum lim l≠0/\q=pkz/\n=0)\/(pnum lim l=0/\n=(meas l).2.1/\∃ P r,dbody l=some (P,r)/\Hid (Mean w' w.heap.size q P)))/\Below w.heap.size w w'
theorem hnum_zero {lim:Int} {l:List Int} (h:hnum lim l=0):l≠[]/\bok (l.getD 0 0)=true/\(V.vget (l.drop 1)).2.2=0/\((1+ghd (l.drop 1)+(gid (l.drop 1)).toNat:Nat):Int)<=lim:=by
 unfold hnum at h
 by_cases h1:l=[]
 ·rw[if_pos h1]at h;cases h
 ·rw[if_neg h1]at h
  cases h2:bok (l.getD 0 0)
  ·rw[if_pos h2]at h;cases h
  ·rw[if_neg (by rw[h2];decide)]at h
   by_cases h3:(V.vget (l.drop 1)).2.2=0
   ·rw[if_neg (by rw[h3];decide)]at h
    by_cases h4:lim < ((1+ghd (l.drop 1)+(gid (l.drop 1)).toNat:Nat):Int)
    ·rw[if_pos h4]at h;cases h
    ·exact⟨h1,rfl,h3,by omega⟩
   ·rw[if_pos h3]at h;exact absurd h h3
theorem pdec_bad (lim:Int) (l:List Int) (w w':World) (m:Int) (hm:pnum lim l=m) (h0:m≠0) (hb:Below w.heap.size w w'):PDecPost lim l w (.returned (.tuple #[pkz.val,.int .i64 0,.int .i64 m])) w' :=
 ⟨pkz,0,by rw[hm];rfl,.inl ⟨by rw[hm];exact h0,rfl,rfl⟩,hb⟩
theorem rp_new (w0:GW) (w:World) (ao:Option Addr) (n cap:Nat) (L:List Int) (h:Byt w0 (.slice ao n cap) L) (hn:n<=140737488355328) (hN:n=w0.N) (hw:Below w0.heap.size w0 w):RP w0 (w.alloc (.cells #[.slice ao n cap,.int .i64 0,.bool false] 75)) w.heap.size (some L) :=
 ⟨ao,n,cap,0,false,L,⟨by simp,⟨by simp,by simp⟩,by simp,by simp⟩,h,Nat.zero_le _,⟨hn,hN⟩,hw.alloc hw.size _,hw.size,by simp⟩
theorem pdec_some (bl off cap:Nat) (l:List Int) (lim:Int) (w:World) (h:Byt w (.slice (some ⟨bl,off,none⟩) l.length cap) l) (hlim:lim<=65536) (HBA:Hid (bok (l.getD 0 0)=true->BdAt (l.getD 0 0))):Calls Tryz.prog 8 #[.slice (some ⟨bl,off,none⟩) l.length cap,.int .i64 lim] w (PDecPost lim l w):=by
 have HPN:=zh (pk_new w pkz)
 have HBN:Hid (Below w.heap.size w (w.alloc (.cells pkz.cells.toArray 29))):=bal _ _
 obtain⟨hc1,hc2⟩:l.length<=cap/\cap<=maxLen:=(byt_len h).2
 unfold maxLen at hc2
 have HH:=zh h
 have HRG:=zh h.range
 have HPD:=zh (pdec_bad lim l w)
 have HPU:Hid (pnum lim l=if hnum lim l≠0 then hnum lim l else if l.length < 1+ghd (l.drop 1)+(gid (l.drop 1)).toNat then 3 else if (dbody l).isSome then 0 else 1):=rfl
 have HHN:=zh (head_pg (.slice (some ⟨bl,off,none⟩) l.length cap) l lim)
 generalize hn:l.length=n at hc1 HH HPU HHN
 have HN:=zh hn
 clear h hn
 go_enter Tryz.func8,Tryz.ntmps8
 go_upto_region 1 with fail
 change Code.wp _ _ _ _ (w.alloc (.cells pkz.cells.toArray 29))
 generalize w.alloc (.cells pkz.cells.toArray 29)=w1 at HPN HBN |-
 have HG:=zh ((uh HHN) w1 ((uh HH).below (uh HBN)))
 have hlt1:=(uh HPN).lt
 clear HHN
 go_wp2_with fail
 refine (uh HG).mono ?_
 rintro e w2 ⟨q,a,m,rfl,hq,hb2⟩
 have HP2:=zh ((uh HPN).below hb2)
 have HB2:Hid (Below w.heap.size w w2):=(uh HBN).trans (hb2.mono (uh HBN).size)
 have hlt2:w.heap.size < w2.heap.size:=Nat.lt_of_lt_of_le hlt1 hb2.size
 have HQ:=zh hq
 clear HPN HBN HG hb2 hq
 dsimp only
 iterate 16 go_step
 refine wpList_value rfl (packet_alloc _ _ _ _ _ _) ?_
 simp only[Act.put,List.setIfInBounds_toArray,List.set_cons_zero,List.set_cons_succ]
 refine wpList_skip rfl (packet_store _ _ _ _ _ _ _ q _ rfl rfl) ?_
 simp only[Act.put]
 have HPA:=zh (pk_new w2 q)
 have HP4:=zh ((uh HP2).below (al (.cells q.cells.toArray 29)))
 have HB3:Hid (Below w.heap.size w (w2.alloc (.cells q.cells.toArray 29))):=(uh HB2).alloc (Nat.le_of_lt hlt2) _
 obtain⟨A,hA⟩:∃ A,A=w2.heap.size:=⟨_,rfl⟩
 rw[<- hA]at HPA hlt2 |-
 have hA3:A < (w2.alloc (.cells q.cells.toArray 29)).heap.size:=by rw[hA];simp
 generalize w2.alloc (.cells q.cells.toArray 29)=w3 at HPA HP4 HB3 hA3 |-
 clear HP2 HB2 hA
 generalize hh:hnum lim l=hm at HQ HPU |-
 have HH0:hm=0->hnum lim l=0:=fun e=>hh.trans e
 clear hh
 by_cases h0:hm=0
 ·subst h0
  obtain⟨rfl,ha,hmm⟩:=(uh HQ) rfl
  rw[if_neg (by decide),<- ha,<- hmm]at HPU
  obtain⟨hl0,hok,hvz,hle⟩:=hnum_zero (HH0 rfl)
  rw[<- ha,<- hmm]at hle
  have hle2:a+m<=65536:=by omega
  have HB0:Hid (0<=l.getD 0 0/\l.getD 0 0<=255):=(uh HRG) 0
  have HOK:=zh hok
  have HMS:Hid (a+m<=n->meas l=(a,a+m,0)):=fun k=>by
   unfold meas
   rw[if_neg (by rw[hvz];decide),<- ha,<- hmm,if_neg (by omega),if_neg (by rw[uh HN];omega)]
  clear hl0 hok hvz hle HQ HH0
  have HA:=zh ha
  clear ha hmm HRG
  by_cases hsh:n < a+m
  ·rw[if_pos hsh]at HPU
   go_upto_region 5 with fail
   iterate 4 go_step
   refine wpList_store_mid rfl 29 _ _ rfl w.heap.size 0 pkz.cells.toArray rfl rfl ((uh HP4).there _) packet_size (Pkv.ones' _) ?_
   simp only[Act.put]
   have HPS:=zh ((uh HP4).stored pkz)
   have HBS:Hid (Below w.heap.size w (w3.setCells w.heap.size 0 pkz.cells)):=setCells_below (uh HB3) (Nat.le_refl _)
   generalize w3.setCells w.heap.size 0 pkz.cells=wS at HPS HBS |-
   go_wp2
   refine bodyPost_ret (res_pk3 (B:=w.heap.size) (q:=pkz) rfl rfl (uh HPS)) rfl ?_
   exact (uh HPD) _ 3 (uh HPU) (by decide) (uh HBS)
  rw[if_neg hsh]at HPU
  have HM2:=zh ((uh HMS) (by omega))
  have HMID:=zh ((uh HH).mid a m (by omega))
  clear HMS
  have hDB:dbody l=packet? (bpa (l.getD 0 0)) ((l.drop a).take m):=by
   unfold dbody
   rw[uh HM2]
   show packet? _ ((l.drop a).take (a+m - a))=_
   rw[Nat.add_sub_cancel_left]
  have HLL:Hid (((l.drop a).take m).length=m):=by
   show _=_
   rw[List.length_take,List.length_drop,uh HN]
   omega
  have HDB:=zh hDB
  clear hDB
  generalize (l.drop a).take m=L at HMID HDB HLL
  have HBD:=zh (fun (R:Nat) (W:World)=>(uh HBA) (uh HOK) R A (some L) ⟨w,m⟩ W)
  clear HBA
  have hA0:w.heap.size<=A:=Nat.le_of_lt hlt2
  go_upto_region 6 with fail
  go_cut [11] from 12 (fun s11 wx=>∃ R:Nat,s11=.pointer (some ⟨R,0,none⟩)/\A < R/\Hid (RP ⟨w,m⟩ wx R (some L))/\Hid (Pk wx A (bpk (l.getD 0 0)))/\Hid (Pk wx w.heap.size pkz)/\Hid (Below w.heap.size w wx))
  case first =>
   by_cases hcap:cap=a
   ·have HT:Hid (Byt w (.slice (some ⟨bl,off,none⟩) 0 0) L):=by
     show Byt _ _ _
     have k:=uh HMID
     rw[if_pos hcap,show m=0 by omega,show cap - a=0 by omega]at k
     exact k
    clear HMID
    obtain rfl:m=0:=by omega
    obtain rfl:a=n:=by omega
    subst hcap
    go_wp2
    go_meet
    case rel=>exact⟨w3.heap.size,rfl,hA3,rp_new ⟨w,_⟩ w3 _ _ _ L (uh HT) (by omega) rfl (uh HB3),(uh HPA).below (al _),(uh HP4).below (al _),(uh HB3).alloc (uh HB3).size _⟩
   ·have HT:Hid (Byt w (.slice (some ⟨bl,off+a,none⟩) m (cap - a)) L):=by
     show Byt _ _ _
     have k:=uh HMID
     rw[if_neg hcap]at k
     exact k
    clear HMID
    go_wp2
    go_meet
    case rel=>exact⟨w3.heap.size,rfl,hA3,rp_new ⟨w,_⟩ w3 _ _ _ L (uh HT) (by omega) rfl (uh HB3),(uh HPA).below (al _),(uh HP4).below (al _),(uh HB3).alloc (uh HB3).size _⟩
  case rest =>
  obtain⟨R,rfl,hAR,HR,HPA',HP4',HB3'⟩:=hcut
  obtain⟨wx,hwx⟩:∃ wx,wx=wc:=⟨_,rfl⟩
  subst hwx
  clear HPA HP4 HB3 HMID hA3
  have hRx:R < wx.heap.size:=(uh HR).lt
  have HG:=zh ((uh HBD) R wx (uh HR) (uh HPA') (by omega) hA0 (fun l' e=>by cases e;rw[uh HLL];omega))
  clear HBD
  go_wp2_with fail
  refine (uh HG).mono ?_
  rintro e wy ⟨rfl,p',P',st',hp,hst,hrp,hb2,hmean⟩
  have h4y:Pk wy w.heap.size pkz:=(uh HP4').blk (hb2.block w.heap.size (uh HP4').lt (by omega) (by omega))
  have hby:Below w.heap.size w wy:=hb2.keep (uh HB3') (by omega) hA0
  have HP4:=zh h4y
  have HB3:=zh hby
  have HPA:=zh hp
  have HST:=zh hst
  have HME:=zh hmean
  have hsx:w.heap.size<=wx.heap.size:=(uh HB3').size
  clear h4y hby hp hst hmean HG HPA' HP4' HB3' hb2
  obtain⟨ao,n',cap',k',bad,L',hc,hy',hk',⟨hn',hN'⟩,hw',hR',hst'⟩:=hrp
  have hN2:n'=m:=uh hN'
  subst hN2
  have hL':=(byt_len hy').1
  obtain⟨c0,⟨c1,f1⟩,c2,f2⟩:=hc
  have hrest:Stp (packet? (bpa (l.getD 0 0))) (some L) P' (if st'=some [] then some [] else none):=by
   unfold packet?
   refine (uh HST).bind ((?_:Stp endR st' () (if st'=some [] then some [] else none)).bind (Stp.pure _ _))
   cases st' with
   | none=>rfl
   | some l'=>cases l' with
    | nil=>exact⟨rfl,rfl⟩
    | cons x t=>rfl
  have HKN:Hid ((st'=some []) ↔ (bad=false/\k'=n')):=by
   show _ ↔ _
   rw[hst']
   cases bad
   ·constructor
    ·intro e
     refine⟨rfl,?_⟩
     have:=congrArg List.length (Option.some.inj e)
     rw[List.length_drop,hL']at this
     simp at this
     omega
    ·rintro⟨_,rfl⟩
     show some (L'.drop k')=some []
     rw[List.drop_of_length_le (by omega)]
   ·constructor
    ·intro e;cases e
    ·rintro⟨e,_⟩;cases e
  have HE:=zh hrest
  have HBAD:Hid (¬ (bad=false/\k'=n')->pnum lim l=1):=fun hne=>by
   have k:=uh HE
   rw[if_neg (fun e=>hne ((uh HKN).1 e))]at k
   rw[uh HPU,uh HDB,stp_none k]
   rfl
  clear hN' hL' hy' hw' hR' hst' hrest hn'
  cases bad
  ·by_cases hkn:k'=n'
   ·have e1:st'=some []:=(uh HKN).2 ⟨rfl,hkn⟩
    have k:=uh HE
    rw[if_pos e1]at k
    have hdb:dbody l=some (P',[]):=(uh HDB).trans (stp_some k)
    have HME2:Hid (Mean wy wx.heap.size p' P'):=by
     rcases uh HME with h | h
     ·rw[e1]at h;cases h
     ·exact h
    have HDB2:=zh hdb
    have HPU0:Hid (pnum lim l=0):=by
     show _=_
     rw[uh HPU,hdb]
     rfl
    have hkb:((k':Int) != (n':Int))=false:=by simp[hkn]
    clear e1 k hdb HKN HE HBAD hkn HPU HME
    go_upto_region 10 with fail
    go_step
    refine wpList_load_mid rfl 29 _ rfl A 0 rfl p'.cells _ (uh HPA).range Tryz.underlying29 rfl packet_size ?_
    simp only[Act.put,List.setIfInBounds_toArray,List.set_cons_zero,List.set_cons_succ]
    iterate 9 go_step
    refine wpList_store_mid rfl 29 _ _ rfl w.heap.size 0 p'.cells.toArray rfl rfl ((uh HP4).there _) packet_size (Pkv.ones' _) ?_
    simp only[Act.put]
    have HPS:=zh ((uh HP4).stored p')
    have HBS:Hid (Below w.heap.size w (wy.setCells w.heap.size 0 p'.cells)):=setCells_below (uh HB3) (Nat.le_refl _)
    have HMS:Hid (Mean (wy.setCells w.heap.size 0 p'.cells) w.heap.size p' P'):=((uh HME2).cells (by omega)).base hsx
    generalize wy.setCells w.heap.size 0 p'.cells=wS at HPS HBS HMS |-
    go_wp2
    refine bodyPost_ret (res_pk3 (B:=w.heap.size) (q:=p') rfl rfl (uh HPS)) rfl ?_
    exact⟨p',a+n',by rw[uh HPU0];exact (by go_num),.inr ⟨uh HPU0,by rw[uh HM2],P',[],uh HDB2,HMS⟩,uh HBS⟩
   ·have hp1:=(uh HBAD) (fun e=>hkn e.2)
    have HP1:=zh hp1
    have hkb:((k':Int) != (n':Int))=true:=by simp;omega
    clear hp1 HKN HE HBAD HPU HME
    go_upto_region 9 with fail
    iterate 4 go_step
    refine wpList_store_mid rfl 29 _ _ rfl w.heap.size 0 pkz.cells.toArray rfl rfl ((uh HP4).there _) packet_size (Pkv.ones' _) ?_
    simp only[Act.put]
    have HPS:=zh ((uh HP4).stored pkz)
    have HBS:Hid (Below w.heap.size w (wy.setCells w.heap.size 0 pkz.cells)):=setCells_below (uh HB3) (Nat.le_refl _)
    generalize wy.setCells w.heap.size 0 pkz.cells=wS at HPS HBS |-
    go_wp2
    refine bodyPost_ret (res_pk3 (B:=w.heap.size) (q:=pkz) rfl rfl (uh HPS)) rfl ?_
    exact (uh HPD) _ 1 (uh HP1) (by decide) (uh HBS)
  ·have hp1:=(uh HBAD) (fun e=>by cases e.1)
   have HP1:=zh hp1
   clear hp1 HKN HE HBAD HPU HME
   go_upto_region 9 with fail
   iterate 4 go_step
   refine wpList_store_mid rfl 29 _ _ rfl w.heap.size 0 pkz.cells.toArray rfl rfl ((uh HP4).there _) packet_size (Pkv.ones' _) ?_
   simp only[Act.put]
   have HPS:=zh ((uh HP4).stored pkz)
   have HBS:Hid (Below w.heap.size w (wy.setCells w.heap.size 0 pkz.cells)):=setCells_below (uh HB3) (Nat.le_refl _)
   generalize wy.setCells w.heap.size 0 pkz.cells=wS at HPS HBS |-
   go_wp2
   refine bodyPost_ret (res_pk3 (B:=w.heap.size) (q:=pkz) rfl rfl (uh HPS)) rfl ?_
   exact (uh HPD) _ 1 (uh HP1) (by decide) (uh HBS)
 ·clear HH0
  rw[if_pos h0]at HPU
  have h1:(hm != 0)=true:=by simpa using h0
  go_upto_region 3 with fail
  iterate 7 go_step
  refine wpList_store_mid rfl 29 _ _ rfl w.heap.size 0 pkz.cells.toArray rfl rfl ((uh HP4).there _) packet_size (Pkv.ones' _) ?_
  simp only[Act.put]
  have HPS:=zh ((uh HP4).stored pkz)
  have HBS:Hid (Below w.heap.size w (w3.setCells w.heap.size 0 pkz.cells)):=setCells_below (uh HB3) (Nat.le_refl _)
  generalize w3.setCells w.heap.size 0 pkz.cells=wS at HPS HBS |-
  go_wp2
  refine bodyPost_ret (res_pk3 (B:=w.heap.size) (q:=pkz) rfl rfl (uh HPS)) rfl ?_
  exact (uh HPD) _ hm (uh HPU) h0 (uh HBS)
theorem pdec_nil (ao:Option Addr) (cap:Nat) (lim:Int) (w:World):Calls Tryz.prog 8 #[.slice ao 0 cap,.int .i64 lim] w (PDecPost lim [] w):=by
 have HPN:=zh (pk_new w pkz)
 have HBN:Hid (Below w.heap.size w (w.alloc (.cells pkz.cells.toArray 29))):=bal _ _
 have HPD:=zh (pdec_bad lim [] w)
 have hh3:hnum lim []=3:=by unfold hnum;rw[if_pos rfl]
 have HPU:Hid (pnum lim []=3):=by
  show _=_
  unfold pnum
  rw[hh3,if_pos (by decide)]
 have HHN:=zh (head_nil ao cap lim)
 unfold HeadPost at HHN
 rw[hh3]at HHN
 obtain⟨l,hl⟩:∃ l:List Int,l=[]:=⟨_,rfl⟩
 rw[<- hl]at HPD HPU HHN |-
 clear hh3 hl
 go_enter Tryz.func8,Tryz.ntmps8
 go_upto_region 1 with fail
 change Code.wp _ _ _ _ (w.alloc (.cells pkz.cells.toArray 29))
 generalize w.alloc (.cells pkz.cells.toArray 29)=w1 at HPN HBN |-
 have HG:=zh ((uh HHN) w1)
 have hlt1:=(uh HPN).lt
 clear HHN
 go_wp2_with fail
 refine (uh HG).mono ?_
 rintro e w2 ⟨q,a,m,rfl,hq,hb2⟩
 have HP2:=zh ((uh HPN).below hb2)
 have HB2:Hid (Below w.heap.size w w2):=(uh HBN).trans (hb2.mono (uh HBN).size)
 have hlt2:w.heap.size < w2.heap.size:=Nat.lt_of_lt_of_le hlt1 hb2.size
 clear HPN HBN HG hb2 hq
 dsimp only
 iterate 16 go_step
 refine wpList_value rfl (packet_alloc _ _ _ _ _ _) ?_
 simp only[Act.put,List.setIfInBounds_toArray,List.set_cons_zero,List.set_cons_succ]
 refine wpList_skip rfl (packet_store _ _ _ _ _ _ _ q _ rfl rfl) ?_
 simp only[Act.put]
 have HP4:=zh ((uh HP2).below (al (.cells q.cells.toArray 29)))
 have HB3:Hid (Below w.heap.size w (w2.alloc (.cells q.cells.toArray 29))):=(uh HB2).alloc (Nat.le_of_lt hlt2) _
 generalize w2.alloc (.cells q.cells.toArray 29)=wy at HP4 HB3 |-
 clear HP2 HB2
 go_upto_region 3 with fail
 iterate 7 go_step
 refine wpList_store_mid rfl 29 _ _ rfl w.heap.size 0 pkz.cells.toArray rfl rfl ((uh HP4).there _) packet_size (Pkv.ones' _) ?_
 simp only[Act.put]
 have HPS:=zh ((uh HP4).stored pkz)
 have HBS:Hid (Below w.heap.size w (wy.setCells w.heap.size 0 pkz.cells)):=setCells_below (uh HB3) (Nat.le_refl _)
 generalize wy.setCells w.heap.size 0 pkz.cells=wS at HPS HBS |-
 go_wp2
 refine bodyPost_ret (res_pk3 (B:=w.heap.size) (q:=pkz) rfl rfl (uh HPS)) rfl ?_
 exact (uh HPD) _ 3 (uh HPU) (by decide) (uh HBS)
theorem pdec_k (v:Value) (l:List Int) (lim:Int) (w:World) (h:Byt w v l) (hlim:lim<=65536) (HB:bok (l.getD 0 0)=true->BdAt (l.getD 0 0)):Calls Tryz.prog 8 #[v,.int .i64 lim] w (PDecPost lim l w):=by
 by_cases hl:l=[]
 ·subst hl
  obtain⟨ao,cap,rfl,_⟩:=h.form
  exact pdec_nil ao cap lim w
 ·obtain⟨b,off,cap,rfl,_⟩:=h.form1 (List.length_pos_iff.2 hl)
  exact pdec_some b off cap l lim w h hlim HB
theorem pdec_pg (v:Value) (l:List Int) (lim:Int) (w:World) (h:Byt w v l) (hlim:lim<=65536):Calls Tryz.prog 8 #[v,.int .i64 lim] w (PDecPost lim l w) :=
 pdec_k v l lim w h hlim fun hok R A st w0 w1 h1 h2 h3 h4 h5=>body_b R A _ (h.range 0).1 (h.range 0).2 hok st w0 w1 h1 h2 h3 h4 h5
end Go.Proofs.YtpheelbbpiieiaaGreatDoor.K
