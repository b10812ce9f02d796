/- Proved here: helpers, one text behind the other. -/
import Derived.Deep.RegionHeld3
import Derived.Test.YtpheelbbpiieiaaGreatDoorZC5
import Derived.Test.YtpheelbbpiieiaaGreatDoorZC14
import Derived.Test.YtpheelbbpiieiaaGreatDoorZC6
import Derived.Test.YtpheelbbpiieiaaGreatDoorZC9
set_option maxHeartbeats 20000000
namespace Go.Proofs.YtpheelbbpiieiaaGreatDoor
open Go.RowKit
set_option maxRecDepth 100000
theorem stand_use (id place:Int) (b:Bool) (h:mst id place=b) (w:World):Calls Tryz.prog 160 #[.int .i64 id,.int .i64 place] w fun e w'=>e=.returned (.bool b)/\Below w.heap.size w w':=by
 subst h
 exact stand_any id place w
theorem shape_use (id f wd lo hi:Int) (h:shv id=.agg #[.int .i64 f,.int .i64 wd,.int .i64 lo,.int .i64 hi]) (w:World):Calls Tryz.prog 159 #[.int .i64 id] w fun e w'=>e=.returned (.agg #[.int .i64 f,.int .i64 wd,.int .i64 lo,.int .i64 hi])/\Below w.heap.size w w':=by
 rw[<- h]
 exact shape_any id w
theorem fits_is (f wd lo hi id n:Int) (s t:ByteArray) (b:Bool) (h:fitB f lo hi n s t=b) (w:World) :
  Calls Tryz.prog 161 #[.agg #[.int .i64 f,.int .i64 wd,.int .i64 lo,.int .i64 hi],.agg #[.int .i64 id,.int .i64 n,.string s,.string t]] w fun e w'=>e=.returned (.bool b)/\Below w.heap.size w w':=by
 subst h
 exact fits_any f wd lo hi id n s t w
theorem repeat_is (id place:Int) (b:Bool) (h:rep id place=b) (w:World):Calls Tryz.prog 162 #[.int .i64 id,.int .i64 place] w fun e w'=>e=.returned (.bool b)/\w'=w:=by
 subst h
 exact repeat_any id place w
theorem below_undrew1 {a w:World} (h:Below a.drew.heap.size a.drew w):Below a.heap.size a w:=⟨h.os,h.tape,h.output,h.size,h.block⟩
def TakeS (R B:Nat) (place id n:Int) (s t:ByteArray) (w:World):Prop :=
 w.cell? ⟨R,0,none⟩=some (.int .i64 place)/\w.cell? ⟨B,0,none⟩=some (.int .i64 id)/\w.cell? ⟨B,1,none⟩=some (.int .i64 n)/\w.cell? ⟨B,2,none⟩=some (.string s)/\w.cell? ⟨B,3,none⟩=some (.string t)
theorem TakeS.below {R B:Nat} {place id n:Int} {s t:ByteArray} {w w':World} (h:TakeS R B place id n s t w) (hb:Below w.heap.size w w'):TakeS R B place id n s t w':=by
 obtain⟨h0,h1,h2,h3,h4⟩:=h
 exact⟨(hb.cell (cell_lt h0)).trans h0,(hb.cell (cell_lt h1)).trans h1,(hb.cell (cell_lt h2)).trans h2,(hb.cell (cell_lt h3)).trans h3,(hb.cell (cell_lt h4)).trans h4⟩
theorem takeS_box (R:Nat) (place id n:Int) (s t:ByteArray) (w:World) (hR:w.cell? ⟨R,0,none⟩=some (.int .i64 place)):TakeS R w.heap.size place id n s t (w.alloc (.cells #[.int .i64 id,.int .i64 n,.string s,.string t] 109)) :=
 ⟨by rw[World.cell?_alloc_lt _ _ ⟨R,0,none⟩ (cell_lt hR)];exact hR,by simp,by simp,by simp,by simp⟩
def TakeNo (w:World) (e:Ending) (w':World):Prop:=∃ E,e=.returned (.iface 118 E)/\Hid (ErrP w' (.iface 118 E) 1)/\Below w.heap.size w w'
theorem take_no1 (R:Nat) (place id n:Int) (s t:ByteArray) (w:World) (hR:w.cell? ⟨R,0,none⟩=some (.int .i64 place)) (hm:mst id place=false) :
  Calls Tryz.prog 146 #[.pointer (some ⟨R,0,none⟩),.agg #[.int .i64 id,.int .i64 n,.string s,.string t]] w (TakeNo w):=by
 have HS0:Hid (TakeS R w.heap.size place id n s t (w.alloc (.cells #[.int .i64 id,.int .i64 n,.string s,.string t] 109))):=takeS_box R place id n s t w hR
 have HB0:Hid (Below w.heap.size w (w.alloc (.cells #[.int .i64 id,.int .i64 n,.string s,.string t] 109))):=bal _ _
 clear hR
 go_enter Tryz.func146,Tryz.ntmps146
 go_wp2_with fail
 generalize w.alloc (.cells #[.int .i64 id,.int .i64 n,.string s,.string t] 109)=W0 at HS0 HB0 |-
 refine wp_region_noPanic ?_
 refine wp_region_held_drew (S:=(fun w'=>w'.cell? ⟨R,0,none⟩=some (.int .i64 place)/\w'.cell? ⟨w.heap.size,0,none⟩=some (.int .i64 id)/\w'.cell? ⟨w.heap.size,1,none⟩=some (.int .i64 n)/\w'.cell? ⟨w.heap.size,2,none⟩=some (.string s)/\w'.cell? ⟨w.heap.size,3,none⟩=some (.string t))) (by kernel_rfl) ((uh HS0).below (below_drewN (Below.refl _ _) 1)) (fun hHeld=>?_)
 refine rtk 0 (h:=?_)
 refine rtk 1 (h:=?_)
 refine rtk 2 (h:=?_)
 refine rtk 3 (h:=?_)
 refine rtk 4 (h:=?_)
 refine rtk 5 (h:=?_)
 refine rcl 6 (h:=fun K hK=>?_)
 go_simp
 refine (stand_use _ place false hm _).mono ?_
 rintro e w1 ⟨rfl,hb1⟩
 have HB1:Hid (Below W0.heap.size W0 w1):=below_undrew1 hb1
 have HS1:Hid (TakeS R w.heap.size place id n s t w1):=(uh HS0).below (uh HB1)
 clear hb1
 go_wp2_with fail
 refine hK.out _ _ (by exact uh HS1) (fun hHeld=>?_)
 clear hK K
 refine rtk 7 (h:=?_)
 refine rtk 8 (h:=?_)
 refine rsk 9 (h:=?_)
 refine rsk 10 (h:=?_)
 refine rsk 11 (h:=?_)
 refine rsk 12 (h:=?_)
 refine rsk 13 (h:=?_)
 refine rsk 14 (h:=?_)
 refine rtk 15 (h:=?_)
 refine wpAnyH_done (by kernel_rfl) ?_ _
 refine NoPanic.normal ?_
 go_wp2_with (go_at_call 118;refine (pfault_use 1 _).mono ?_;rintro e w9 ⟨E,rfl,hE,hb9⟩)
 go_ret
 exact⟨E,rfl,hE,(uh HB0).trans (((uh HB1).trans (hb9.mono (uh HB1).size)).mono (uh HB0).size)⟩
theorem take_no2 (R:Nat) (place id n:Int) (s t:ByteArray) (w:World) (hR:w.cell? ⟨R,0,none⟩=some (.int .i64 place)) (hm:mst id place=true) (hf:fit (id,n,s,t)=false) :
  Calls Tryz.prog 146 #[.pointer (some ⟨R,0,none⟩),.agg #[.int .i64 id,.int .i64 n,.string s,.string t]] w (TakeNo w):=by
 have HSH:Hid (shv id=.agg #[.int .i64 (frm id),.int .i64 (wid id),.int .i64 (lst id),.int .i64 (mx id)]):=rfl
 rw[fit_eq]at hf
 generalize frm id=f at HSH hf
 generalize wid id=wd at HSH
 generalize lst id=lo at HSH hf
 generalize mx id=hi at HSH hf
 have HS0:Hid (TakeS R w.heap.size place id n s t (w.alloc (.cells #[.int .i64 id,.int .i64 n,.string s,.string t] 109))):=takeS_box R place id n s t w hR
 have HB0:Hid (Below w.heap.size w (w.alloc (.cells #[.int .i64 id,.int .i64 n,.string s,.string t] 109))):=bal _ _
 clear hR
 go_enter Tryz.func146,Tryz.ntmps146
 go_wp2_with fail
 generalize w.alloc (.cells #[.int .i64 id,.int .i64 n,.string s,.string t] 109)=W0 at HS0 HB0 |-
 refine wp_region_noPanic ?_
 refine wp_region_held_drew (S:=(fun w'=>w'.cell? ⟨R,0,none⟩=some (.int .i64 place)/\w'.cell? ⟨w.heap.size,0,none⟩=some (.int .i64 id)/\w'.cell? ⟨w.heap.size,1,none⟩=some (.int .i64 n)/\w'.cell? ⟨w.heap.size,2,none⟩=some (.string s)/\w'.cell? ⟨w.heap.size,3,none⟩=some (.string t))) (by kernel_rfl) ((uh HS0).below (below_drewN (Below.refl _ _) 1)) (fun hHeld=>?_)
 refine rtk 0 (h:=?_)
 refine rtk 1 (h:=?_)
 refine rtk 2 (h:=?_)
 refine rtk 3 (h:=?_)
 refine rtk 4 (h:=?_)
 refine rtk 5 (h:=?_)
 refine rcl 6 (h:=fun K hK=>?_)
 go_simp
 refine (stand_use _ place true hm _).mono ?_
 rintro e w1 ⟨rfl,hb1⟩
 have HB1:Hid (Below W0.heap.size W0 w1):=below_undrew1 hb1
 have HS1:Hid (TakeS R w.heap.size place id n s t w1):=(uh HS0).below (uh HB1)
 clear hb1
 go_wp2_with fail
 refine hK.out _ _ (by exact uh HS1) (fun hHeld=>?_)
 clear hK K
 refine rtk 7 (h:=?_)
 refine rtk 8 (h:=?_)
 refine rtk 9 (h:=?_)
 refine rtk 10 (h:=?_)
 refine rtk 12 (h:=?_)
 refine rcl 11 (h:=fun K hK=>?_)
 go_simp
 refine (shape_use _ f wd lo hi (uh HSH) _).mono ?_
 rintro e w2 ⟨rfl,hb2⟩
 have HB2:Hid (Below W0.heap.size W0 w2):=(uh HB1).trans (hb2.mono (uh HB1).size)
 have HS2:Hid (TakeS R w.heap.size place id n s t w2):=(uh HS0).below (uh HB2)
 clear hb2 HB1 HS1
 go_wp2_with fail
 refine hK.out _ _ (by exact uh HS2) (fun hHeld=>?_)
 clear hK K
 refine rcl 13 (h:=fun K hK=>?_)
 go_simp
 refine (fits_is f wd lo hi _ n s t false hf _).mono ?_
 rintro e w3 ⟨rfl,hb3⟩
 have HB3:Hid (Below W0.heap.size W0 w3):=(uh HB2).trans (hb3.mono (uh HB2).size)
 have HS3:Hid (TakeS R w.heap.size place id n s t w3):=(uh HS0).below (uh HB3)
 clear hb3 HB2 HS2
 go_wp2_with fail
 refine hK.out _ _ (by exact uh HS3) (fun hHeld=>?_)
 clear hK K
 refine rtk 14 (h:=?_)
 refine rtk 15 (h:=?_)
 refine wpAnyH_done (by kernel_rfl) ?_ _
 refine NoPanic.normal ?_
 go_wp2_with (go_at_call 118;refine (pfault_use 1 _).mono ?_;rintro e w9 ⟨E,rfl,hE,hb9⟩)
 go_ret
 exact⟨E,rfl,hE,(uh HB0).trans (((uh HB3).trans (hb9.mono (uh HB3).size)).mono (uh HB0).size)⟩
theorem take_no3 (R k:Nat) (place n:Int) (s t:ByteArray) (w:World) (hk:k<=42) (hR:w.cell? ⟨R,0,none⟩=some (.int .i64 place)) (hsn:w.cell? ⟨R,1+k,none⟩=some (.bool true)) (hm:mst k place=true) (hf:fit (k,n,s,t)=true) (hr:rep k place=false) :
  Calls Tryz.prog 146 #[.pointer (some ⟨R,0,none⟩),.agg #[.int .i64 (k:Int),.int .i64 n,.string s,.string t]] w (TakeNo w):=by
 have HSH:Hid (shv (k:Int)=.agg #[.int .i64 (frm (k:Int)),.int .i64 (wid (k:Int)),.int .i64 (lst (k:Int)),.int .i64 (mx (k:Int))]):=rfl
 rw[fit_eq]at hf
 generalize frm (k:Int)=f at HSH hf
 generalize wid (k:Int)=wd at HSH
 generalize lst (k:Int)=lo at HSH hf
 generalize mx (k:Int)=hi at HSH hf
 have HQ:Hid ((w.alloc (.cells #[.int .i64 (k:Int),.int .i64 n,.string s,.string t] 109)).cell? ⟨R,1+k,none⟩=some (.bool true)):=by
  show _=_
  rw[World.cell?_alloc_lt _ _ ⟨R,1+k,none⟩ (cell_lt hsn)];exact hsn
 clear hsn
 have HS0:Hid (TakeS R w.heap.size place (k:Int) n s t (w.alloc (.cells #[.int .i64 (k:Int),.int .i64 n,.string s,.string t] 109))):=takeS_box R place (k:Int) n s t w hR
 have HB0:Hid (Below w.heap.size w (w.alloc (.cells #[.int .i64 (k:Int),.int .i64 n,.string s,.string t] 109))):=bal _ _
 clear hR
 go_enter Tryz.func146,Tryz.ntmps146
 go_wp2_with fail
 generalize w.alloc (.cells #[.int .i64 (k:Int),.int .i64 n,.string s,.string t] 109)=W0 at HS0 HB0 HQ |-
 refine wp_region_noPanic ?_
 refine wp_region_held_drew (S:=(fun w'=>w'.cell? ⟨R,0,none⟩=some (.int .i64 place)/\w'.cell? ⟨w.heap.size,0,none⟩=some (.int .i64 (k:Int))/\w'.cell? ⟨w.heap.size,1,none⟩=some (.int .i64 n)/\w'.cell? ⟨w.heap.size,2,none⟩=some (.string s)/\w'.cell? ⟨w.heap.size,3,none⟩=some (.string t))) (by kernel_rfl) ((uh HS0).below (below_drewN (Below.refl _ _) 1)) (fun hHeld=>?_)
 refine rtk 0 (h:=?_)
 refine rtk 1 (h:=?_)
 refine rtk 2 (h:=?_)
 refine rtk 3 (h:=?_)
 refine rtk 4 (h:=?_)
 refine rtk 5 (h:=?_)
 refine rcl 6 (h:=fun K hK=>?_)
 go_simp
 refine (stand_use _ place true hm _).mono ?_
 rintro e w1 ⟨rfl,hb1⟩
 have HB1:Hid (Below W0.heap.size W0 w1):=below_undrew1 hb1
 have HS1:Hid (TakeS R w.heap.size place (k:Int) n s t w1):=(uh HS0).below (uh HB1)
 clear hb1
 go_wp2_with fail
 refine hK.out _ _ (by exact uh HS1) (fun hHeld=>?_)
 clear hK K
 refine rtk 7 (h:=?_)
 refine rtk 8 (h:=?_)
 refine rtk 9 (h:=?_)
 refine rtk 10 (h:=?_)
 refine rtk 12 (h:=?_)
 refine rcl 11 (h:=fun K hK=>?_)
 go_simp
 refine (shape_use _ f wd lo hi (uh HSH) _).mono ?_
 rintro e w2 ⟨rfl,hb2⟩
 have HB2:Hid (Below W0.heap.size W0 w2):=(uh HB1).trans (hb2.mono (uh HB1).size)
 have HS2:Hid (TakeS R w.heap.size place (k:Int) n s t w2):=(uh HS0).below (uh HB2)
 clear hb2 HB1 HS1
 go_wp2_with fail
 refine hK.out _ _ (by exact uh HS2) (fun hHeld=>?_)
 clear hK K
 refine rcl 13 (h:=fun K hK=>?_)
 go_simp
 refine (fits_is f wd lo hi _ n s t true hf _).mono ?_
 rintro e w3 ⟨rfl,hb3⟩
 have HB3:Hid (Below W0.heap.size W0 w3):=(uh HB2).trans (hb3.mono (uh HB2).size)
 have HS3:Hid (TakeS R w.heap.size place (k:Int) n s t w3):=(uh HS0).below (uh HB3)
 clear hb3 HB2 HS2
 go_wp2_with fail
 refine hK.out _ _ (by exact uh HS3) (fun hHeld=>?_)
 clear hK K
 refine rtk 14 (h:=?_)
 refine rtk 15 (h:=?_)
 refine wpAnyH_done (by kernel_rfl) ?_ _
 refine NoPanic.normal ?_
 have HQ0:Hid (W0.cell? ⟨R,1+k,none⟩=some (.bool true)):=by show _=_;exact uh HQ
 have HQ3:Hid (w3.cell? ⟨R,1+k,none⟩=some (.bool true)):=((uh HB3).cell (cell_lt (uh HQ0))).trans (uh HQ0)
 go_wp2_with fail
 refine wp_region_noPanic ?_
 refine wp_region_held_drew (S:=(fun w'=>w'.cell? ⟨R,0,none⟩=some (.int .i64 place)/\w'.cell? ⟨w.heap.size,0,none⟩=some (.int .i64 (k:Int))/\w'.cell? ⟨R,1+k,none⟩=some (.bool true))) (by kernel_rfl) ⟨(uh HS3).1,(uh HS3).2.1,uh HQ3⟩ (fun hHeld=>?_)
 refine rtk 0 (h:=?_)
 refine rtk 1 (h:=?_)
 refine rtk 2 (h:=?_)
 refine rtk 3 (h:=?_)
 refine rtk 4 (h:=?_)
 refine rtk 5 (h:=?_)
 refine rtk 6 (h:=?_)
 refine rtk 7 (h:=?_)
 refine rtk 8 (h:=?_)
 refine rtk 9 (h:=?_)
 refine rtk 10 (h:=?_)
 refine rtk 11 (h:=?_)
 refine rtk 12 (h:=?_)
 refine rtk 13 (h:=?_)
 refine rcl 14 (h:=fun K hK=>?_)
 go_simp
 refine (repeat_is _ place false hr _).mono ?_
 rintro e w4 ⟨rfl,hw4⟩
 obtain rfl:=hw4.symm
 clear hw4
 go_wp2_with fail
 refine hK.out _ _ (by assumption) (fun hHeld=>?_)
 clear hK K
 refine rtk 15 (h:=?_)
 refine rtk 16 (h:=?_)
 refine wpAnyH_done (by kernel_rfl) ?_ _
 refine NoPanic.normal ?_
 have HB4:Hid (Below W0.heap.size W0 w3.drew):=below_drewN (uh HB3) 1
 go_wp2_with (go_at_call 118;refine (pfault_use 1 _).mono ?_;rintro e w9 ⟨E,rfl,hE,hb9⟩)
 go_ret
 exact⟨E,rfl,hE,(uh HB0).trans (((uh HB4).trans (hb9.mono (uh HB4).size)).mono (uh HB0).size)⟩
theorem take_ok0 (R k:Nat) (place n:Int) (s t:ByteArray) (w:World) (hk:k<=42) (hR:w.cell? ⟨R,0,none⟩=some (.int .i64 place)) (hsn:w.cell? ⟨R,1+k,none⟩=some (.bool false)) (hfz:w.frozen? ⟨R,1+k,none⟩=false) (hm:mst k place=true) (hf:fit (k,n,s,t)=true) :
  Calls Tryz.prog 146 #[.pointer (some ⟨R,0,none⟩),.agg #[.int .i64 (k:Int),.int .i64 n,.string s,.string t]] w (fun e w'=>e=.returned .nilIface/\∃ w1,Below w.heap.size w w1/\w'=w1.setCell ⟨R,1+k,none⟩ (.bool true)):=by
 have HSH:Hid (shv (k:Int)=.agg #[.int .i64 (frm (k:Int)),.int .i64 (wid (k:Int)),.int .i64 (lst (k:Int)),.int .i64 (mx (k:Int))]):=rfl
 rw[fit_eq]at hf
 generalize frm (k:Int)=f at HSH hf
 generalize wid (k:Int)=wd at HSH
 generalize lst (k:Int)=lo at HSH hf
 generalize mx (k:Int)=hi at HSH hf
 have hRl:R < w.heap.size:=cell_lt hR
 have HQ:Hid ((w.alloc (.cells #[.int .i64 (k:Int),.int .i64 n,.string s,.string t] 109)).cell? ⟨R,1+k,none⟩=some (.bool false)):=by
  show _=_
  rw[World.cell?_alloc_lt _ _ ⟨R,1+k,none⟩ (cell_lt hsn)];exact hsn
 clear hsn
 have HS0:Hid (TakeS R w.heap.size place (k:Int) n s t (w.alloc (.cells #[.int .i64 (k:Int),.int .i64 n,.string s,.string t] 109))):=takeS_box R place (k:Int) n s t w hR
 have HB0:Hid (Below w.heap.size w (w.alloc (.cells #[.int .i64 (k:Int),.int .i64 n,.string s,.string t] 109))):=bal _ _
 clear hR
 go_enter Tryz.func146,Tryz.ntmps146
 go_wp2_with fail
 generalize w.alloc (.cells #[.int .i64 (k:Int),.int .i64 n,.string s,.string t] 109)=W0 at HS0 HB0 HQ |-
 refine wp_region_noPanic ?_
 refine wp_region_held_drew (S:=(fun w'=>w'.cell? ⟨R,0,none⟩=some (.int .i64 place)/\w'.cell? ⟨w.heap.size,0,none⟩=some (.int .i64 (k:Int))/\w'.cell? ⟨w.heap.size,1,none⟩=some (.int .i64 n)/\w'.cell? ⟨w.heap.size,2,none⟩=some (.string s)/\w'.cell? ⟨w.heap.size,3,none⟩=some (.string t))) (by kernel_rfl) ((uh HS0).below (below_drewN (Below.refl _ _) 1)) (fun hHeld=>?_)
 refine rtk 0 (h:=?_)
 refine rtk 1 (h:=?_)
 refine rtk 2 (h:=?_)
 refine rtk 3 (h:=?_)
 refine rtk 4 (h:=?_)
 refine rtk 5 (h:=?_)
 refine rcl 6 (h:=fun K hK=>?_)
 go_simp
 refine (stand_use _ place true hm _).mono ?_
 rintro e w1 ⟨rfl,hb1⟩
 have HB1:Hid (Below W0.heap.size W0 w1):=below_undrew1 hb1
 have HS1:Hid (TakeS R w.heap.size place (k:Int) n s t w1):=(uh HS0).below (uh HB1)
 clear hb1
 go_wp2_with fail
 refine hK.out _ _ (by exact uh HS1) (fun hHeld=>?_)
 clear hK K
 refine rtk 7 (h:=?_)
 refine rtk 8 (h:=?_)
 refine rtk 9 (h:=?_)
 refine rtk 10 (h:=?_)
 refine rtk 12 (h:=?_)
 refine rcl 11 (h:=fun K hK=>?_)
 go_simp
 refine (shape_use _ f wd lo hi (uh HSH) _).mono ?_
 rintro e w2 ⟨rfl,hb2⟩
 have HB2:Hid (Below W0.heap.size W0 w2):=(uh HB1).trans (hb2.mono (uh HB1).size)
 have HS2:Hid (TakeS R w.heap.size place (k:Int) n s t w2):=(uh HS0).below (uh HB2)
 clear hb2 HB1 HS1
 go_wp2_with fail
 refine hK.out _ _ (by exact uh HS2) (fun hHeld=>?_)
 clear hK K
 refine rcl 13 (h:=fun K hK=>?_)
 go_simp
 refine (fits_is f wd lo hi _ n s t true hf _).mono ?_
 rintro e w3 ⟨rfl,hb3⟩
 have HB3:Hid (Below W0.heap.size W0 w3):=(uh HB2).trans (hb3.mono (uh HB2).size)
 have HS3:Hid (TakeS R w.heap.size place (k:Int) n s t w3):=(uh HS0).below (uh HB3)
 clear hb3 HB2 HS2
 go_wp2_with fail
 refine hK.out _ _ (by exact uh HS3) (fun hHeld=>?_)
 clear hK K
 refine rtk 14 (h:=?_)
 refine rtk 15 (h:=?_)
 refine wpAnyH_done (by kernel_rfl) ?_ _
 refine NoPanic.normal ?_
 have HQ0:Hid (W0.cell? ⟨R,1+k,none⟩=some (.bool false)):=by show _=_;exact uh HQ
 have HQ3:Hid (w3.cell? ⟨R,1+k,none⟩=some (.bool false)):=((uh HB3).cell (cell_lt (uh HQ0))).trans (uh HQ0)
 go_wp2_with fail
 refine wp_region_noPanic ?_
 refine wp_region_held_drew (S:=(fun w'=>w'.cell? ⟨R,0,none⟩=some (.int .i64 place)/\w'.cell? ⟨w.heap.size,0,none⟩=some (.int .i64 (k:Int))/\w'.cell? ⟨R,1+k,none⟩=some (.bool false))) (by kernel_rfl) ⟨(uh HS3).1,(uh HS3).2.1,uh HQ3⟩ (fun hHeld=>?_)
 refine rtk 0 (h:=?_)
 refine rtk 1 (h:=?_)
 refine rtk 2 (h:=?_)
 refine rtk 3 (h:=?_)
 refine rtk 4 (h:=?_)
 refine rtk 5 (h:=?_)
 refine rtk 6 (h:=?_)
 refine rtk 7 (h:=?_)
 refine rsk 8 (h:=?_)
 refine rsk 9 (h:=?_)
 refine rsk 10 (h:=?_)
 refine rsk 11 (h:=?_)
 refine rsk 12 (h:=?_)
 refine rsk 13 (h:=?_)
 refine rsk 14 (h:=?_)
 refine rsk 15 (h:=?_)
 refine rtk 16 (h:=?_)
 refine wpAnyH_done (by kernel_rfl) ?_ _
 refine NoPanic.normal ?_
 have hq4:w3.drew.cell? ⟨R,1+k,none⟩=some (.bool false):=by exact uh HQ3
 have hx4:w3.drew.cell? ⟨w.heap.size,0,none⟩=some (.int .i64 (k:Int)):=by exact (uh HS3).2.1
 have HB4:Hid (Below w.heap.size w w3.drew):=below_drewN ((uh HB0).trans ((uh HB3).mono (uh HB0).size)) 1
 have hz4:w3.drew.frozen? ⟨R,1+k,none⟩=false:=((uh HB4).frozen (p:=⟨R,1+k,none⟩) hRl).trans hfz
 clear HB3 HS3 HQ3 HQ0 HS0 HB0 HQ hfz HSH hf hm hHeld
 generalize w3.drew=w4 at hq4 hx4 HB4 hz4 |-
 go_wp2_with fail
 refine wp_region_noPanic ?_
 refine wp_region_held_drew (S:=(fun w'=>w'.cell? ⟨w.heap.size,0,none⟩=some (.int .i64 (k:Int)))) (by kernel_rfl) (by exact hx4) (fun hHeld=>?_)
 refine rtk 0 (h:=?_)
 refine rtk 1 (h:=?_)
 refine rtk 2 (h:=?_)
 refine rtk 3 (h:=?_)
 refine rtk 4 (h:=?_)
 refine rtk 5 (h:=?_)
 have hq5:w4.drew.cell? ⟨R,1+k,none⟩=some (.bool false):=hq4
 have hz5:w4.drew.frozen? ⟨R,1+k,none⟩=false:=hz4
 refine rcl 6 (h:=fun K hK=>?_)
 go_simp
 refine hK.out _ _ (by show (w4.setCell ⟨R,1+k,none⟩ (.bool true)).cell? _=_;rw[World.cell?_setCell_far _ _ _ _ (by simp;omega)];exact hx4) (fun hHeld=>?_)
 clear hK K
 refine wpAnyH_done (by kernel_rfl) ?_ _
 refine NoPanic.normal ?_
 go_wp2
 go_ret
 exact⟨rfl,w4.drew,below_drewN (uh HB4) 1,rfl⟩
theorem take_ok1 (R k:Nat) (place n:Int) (s t:ByteArray) (w:World) (hk:k<=42) (hR:w.cell? ⟨R,0,none⟩=some (.int .i64 place)) (hsn:w.cell? ⟨R,1+k,none⟩=some (.bool true)) (hfz:w.frozen? ⟨R,1+k,none⟩=false) (hm:mst k place=true) (hf:fit (k,n,s,t)=true) (hr:rep k place=true) :
  Calls Tryz.prog 146 #[.pointer (some ⟨R,0,none⟩),.agg #[.int .i64 (k:Int),.int .i64 n,.string s,.string t]] w (fun e w'=>e=.returned .nilIface/\∃ w1,Below w.heap.size w w1/\w'=w1.setCell ⟨R,1+k,none⟩ (.bool true)):=by
 have HSH:Hid (shv (k:Int)=.agg #[.int .i64 (frm (k:Int)),.int .i64 (wid (k:Int)),.int .i64 (lst (k:Int)),.int .i64 (mx (k:Int))]):=rfl
 rw[fit_eq]at hf
 generalize frm (k:Int)=f at HSH hf
 generalize wid (k:Int)=wd at HSH
 generalize lst (k:Int)=lo at HSH hf
 generalize mx (k:Int)=hi at HSH hf
 have hRl:R < w.heap.size:=cell_lt hR
 have HQ:Hid ((w.alloc (.cells #[.int .i64 (k:Int),.int .i64 n,.string s,.string t] 109)).cell? ⟨R,1+k,none⟩=some (.bool true)):=by
  show _=_
  rw[World.cell?_alloc_lt _ _ ⟨R,1+k,none⟩ (cell_lt hsn)];exact hsn
 clear hsn
 have HS0:Hid (TakeS R w.heap.size place (k:Int) n s t (w.alloc (.cells #[.int .i64 (k:Int),.int .i64 n,.string s,.string t] 109))):=takeS_box R place (k:Int) n s t w hR
 have HB0:Hid (Below w.heap.size w (w.alloc (.cells #[.int .i64 (k:Int),.int .i64 n,.string s,.string t] 109))):=bal _ _
 clear hR
 go_enter Tryz.func146,Tryz.ntmps146
 go_wp2_with fail
 generalize w.alloc (.cells #[.int .i64 (k:Int),.int .i64 n,.string s,.string t] 109)=W0 at HS0 HB0 HQ |-
 refine wp_region_noPanic ?_
 refine wp_region_held_drew (S:=(fun w'=>w'.cell? ⟨R,0,none⟩=some (.int .i64 place)/\w'.cell? ⟨w.heap.size,0,none⟩=some (.int .i64 (k:Int))/\w'.cell? ⟨w.heap.size,1,none⟩=some (.int .i64 n)/\w'.cell? ⟨w.heap.size,2,none⟩=some (.string s)/\w'.cell? ⟨w.heap.size,3,none⟩=some (.string t))) (by kernel_rfl) ((uh HS0).below (below_drewN (Below.refl _ _) 1)) (fun hHeld=>?_)
 refine rtk 0 (h:=?_)
 refine rtk 1 (h:=?_)
 refine rtk 2 (h:=?_)
 refine rtk 3 (h:=?_)
 refine rtk 4 (h:=?_)
 refine rtk 5 (h:=?_)
 refine rcl 6 (h:=fun K hK=>?_)
 go_simp
 refine (stand_use _ place true hm _).mono ?_
 rintro e w1 ⟨rfl,hb1⟩
 have HB1:Hid (Below W0.heap.size W0 w1):=below_undrew1 hb1
 have HS1:Hid (TakeS R w.heap.size place (k:Int) n s t w1):=(uh HS0).below (uh HB1)
 clear hb1
 go_wp2_with fail
 refine hK.out _ _ (by exact uh HS1) (fun hHeld=>?_)
 clear hK K
 refine rtk 7 (h:=?_)
 refine rtk 8 (h:=?_)
 refine rtk 9 (h:=?_)
 refine rtk 10 (h:=?_)
 refine rtk 12 (h:=?_)
 refine rcl 11 (h:=fun K hK=>?_)
 go_simp
 refine (shape_use _ f wd lo hi (uh HSH) _).mono ?_
 rintro e w2 ⟨rfl,hb2⟩
 have HB2:Hid (Below W0.heap.size W0 w2):=(uh HB1).trans (hb2.mono (uh HB1).size)
 have HS2:Hid (TakeS R w.heap.size place (k:Int) n s t w2):=(uh HS0).below (uh HB2)
 clear hb2 HB1 HS1
 go_wp2_with fail
 refine hK.out _ _ (by exact uh HS2) (fun hHeld=>?_)
 clear hK K
 refine rcl 13 (h:=fun K hK=>?_)
 go_simp
 refine (fits_is f wd lo hi _ n s t true hf _).mono ?_
 rintro e w3 ⟨rfl,hb3⟩
 have HB3:Hid (Below W0.heap.size W0 w3):=(uh HB2).trans (hb3.mono (uh HB2).size)
 have HS3:Hid (TakeS R w.heap.size place (k:Int) n s t w3):=(uh HS0).below (uh HB3)
 clear hb3 HB2 HS2
 go_wp2_with fail
 refine hK.out _ _ (by exact uh HS3) (fun hHeld=>?_)
 clear hK K
 refine rtk 14 (h:=?_)
 refine rtk 15 (h:=?_)
 refine wpAnyH_done (by kernel_rfl) ?_ _
 refine NoPanic.normal ?_
 have HQ0:Hid (W0.cell? ⟨R,1+k,none⟩=some (.bool true)):=by show _=_;exact uh HQ
 have HQ3:Hid (w3.cell? ⟨R,1+k,none⟩=some (.bool true)):=((uh HB3).cell (cell_lt (uh HQ0))).trans (uh HQ0)
 go_wp2_with fail
 refine wp_region_noPanic ?_
 refine wp_region_held_drew (S:=(fun w'=>w'.cell? ⟨R,0,none⟩=some (.int .i64 place)/\w'.cell? ⟨w.heap.size,0,none⟩=some (.int .i64 (k:Int))/\w'.cell? ⟨R,1+k,none⟩=some (.bool true))) (by kernel_rfl) ⟨(uh HS3).1,(uh HS3).2.1,uh HQ3⟩ (fun hHeld=>?_)
 refine rtk 0 (h:=?_)
 refine rtk 1 (h:=?_)
 refine rtk 2 (h:=?_)
 refine rtk 3 (h:=?_)
 refine rtk 4 (h:=?_)
 refine rtk 5 (h:=?_)
 refine rtk 6 (h:=?_)
 refine rtk 7 (h:=?_)
 refine rtk 8 (h:=?_)
 refine rtk 9 (h:=?_)
 refine rtk 10 (h:=?_)
 refine rtk 11 (h:=?_)
 refine rtk 12 (h:=?_)
 refine rtk 13 (h:=?_)
 refine rcl 14 (h:=fun K hK=>?_)
 go_simp
 refine (repeat_is _ place true hr _).mono ?_
 rintro e w4 ⟨rfl,hw4⟩
 obtain rfl:=hw4.symm
 clear hw4
 go_wp2_with fail
 refine hK.out _ _ (by assumption) (fun hHeld=>?_)
 clear hK K
 refine rtk 15 (h:=?_)
 refine rtk 16 (h:=?_)
 refine wpAnyH_done (by kernel_rfl) ?_ _
 refine NoPanic.normal ?_
 have hq4:w3.drew.cell? ⟨R,1+k,none⟩=some (.bool true):=by exact uh HQ3
 have hx4:w3.drew.cell? ⟨w.heap.size,0,none⟩=some (.int .i64 (k:Int)):=by exact (uh HS3).2.1
 have HB4:Hid (Below w.heap.size w w3.drew):=below_drewN ((uh HB0).trans ((uh HB3).mono (uh HB0).size)) 1
 have hz4:w3.drew.frozen? ⟨R,1+k,none⟩=false:=((uh HB4).frozen (p:=⟨R,1+k,none⟩) hRl).trans hfz
 clear HB3 HS3 HQ3 HQ0 HS0 HB0 HQ hfz HSH hf hm hHeld
 generalize w3.drew=w4 at hq4 hx4 HB4 hz4 |-
 go_wp2_with fail
 refine wp_region_noPanic ?_
 refine wp_region_held_drew (S:=(fun w'=>w'.cell? ⟨w.heap.size,0,none⟩=some (.int .i64 (k:Int)))) (by kernel_rfl) (by exact hx4) (fun hHeld=>?_)
 refine rtk 0 (h:=?_)
 refine rtk 1 (h:=?_)
 refine rtk 2 (h:=?_)
 refine rtk 3 (h:=?_)
 refine rtk 4 (h:=?_)
 refine rtk 5 (h:=?_)
 have hq5:w4.drew.cell? ⟨R,1+k,none⟩=some (.bool true):=hq4
 have hz5:w4.drew.frozen? ⟨R,1+k,none⟩=false:=hz4
 refine rcl 6 (h:=fun K hK=>?_)
 go_simp
 refine hK.out _ _ (by show (w4.setCell ⟨R,1+k,none⟩ (.bool true)).cell? _=_;rw[World.cell?_setCell_far _ _ _ _ (by simp;omega)];exact hx4) (fun hHeld=>?_)
 clear hK K
 refine wpAnyH_done (by kernel_rfl) ?_ _
 refine NoPanic.normal ?_
 go_wp2
 go_ret
 exact⟨rfl,w4.drew,below_drewN (uh HB4) 1,rfl⟩
def ValOk (l:List Int) (w:World) (e:Ending) (w':World):Prop:=∃ v,e=.returned (.tuple #[v,.nilIface])/\Hid (Byt w' v l)/\Below w.heap.size w w'
def ValBad (w:World) (e:Ending) (w':World):Prop:=∃ t x n,e=.returned (.tuple #[.slice none 0 0,.iface t x])/\Hid (Inn w' (.iface t x) n)/\Below w.heap.size w w'
theorem range_app {xs ys:List Int} (hx:∀ j,0<=xs.getD j 0/\xs.getD j 0<=255) (hy:∀ j,0<=ys.getD j 0/\ys.getD j 0<=255):∀ j,0<=(xs++ys).getD j 0/\(xs++ys).getD j 0<=255:=by
 intro j
 rcases Nat.lt_or_ge j xs.length with h | h
 ·rw[List.getD_eq_getElem?_getD,List.getElem?_append_left h,<- List.getD_eq_getElem?_getD];exact hx j
 ·rw[List.getD_eq_getElem?_getD,List.getElem?_append_right h,<- List.getD_eq_getElem?_getD];exact hy _
theorem tput_ok (s:ByteArray) (w:World) (hc:chk (sb s)=0):Calls Tryz.prog 152 #[.string s] w (fun e w'=>∃ v,e=.returned (.tuple #[v,.nilIface])/\Hid (w'.ownsRow w.heap.size 5 1 v (2+s.size) ((tx s).map (Value.int .u8)))/\Hid (Byt w' v (tx s))/\Below w.heap.size w w'):=by
 refine (put_ok s w hc).mono ?_
 rintro e w' ⟨v,rfl,hown,hb⟩
 exact⟨v,rfl,hown,byt_of_owns (uh hown) (tx_range s (by have:=chk_0 hc;rw[sb_length]at this;exact this)),hb⟩
theorem tput_bad (s:ByteArray) (w:World) (hs:s.size<=4611686018427387904) (hc:chk (sb s)≠0):Calls Tryz.prog 152 #[.string s] w (fun e w'=>∃ x n,e=.returned (.tuple #[.slice none 0 0,.iface 118 x])/\Hid (Inn w' (.iface 118 x) n)/\Below w.heap.size w w'):=by
 refine (put_bad s _ w hs rfl hc).mono ?_
 rintro e w' ⟨rfl,rfl⟩
 exact⟨_,chk (sb s),rfl,.inr ⟨_,rfl,by simp⟩,fault_below _ _⟩
theorem pair_ok (s t:ByteArray) (w:World) (hs:chk (sb s)=0) (ht:chk (sb t)=0):Calls Tryz.prog 176 #[.string s,.string t] w (ValOk (tx s++tx t) w):=by
 have ls:s.size<=65535:=by have:=chk_0 hs;rw[sb_length]at this;exact this
 have lt:t.size<=65535:=by have:=chk_0 ht;rw[sb_length]at this;exact this
 have HS:=zh hs
 have HT:=zh ht
 clear hs ht
 go_enter Tryz.func176,Tryz.ntmps176
 go_wp2_with fail
 refine (tput_ok s _ (uh HS)).mono ?_
 rintro e w1 ⟨v1,rfl,hown1,-,hb1⟩
 have HB1:=zh hb1
 clear hb1
 go_wp2_with fail
 refine (tput_ok t _ (uh HT)).mono ?_
 rintro e w2 ⟨v2,rfl,-,hy2,hb2⟩
 have HO2:Hid (w2.ownsRow w.heap.size 5 1 v1 (2+s.size) ((tx s).map (Value.int .u8))):=owns_below (uh hown1) hb2
 have HB2:Hid (Below w.heap.size w w2):=(uh HB1).trans (hb2.mono (uh HB1).size)
 clear hb2 HB1 hown1
 go_wp2_with (first
  | (at_builtin;refine wpList_append_byt _ rfl _ _ rfl w.heap.size _ (2+s.size) (tx s) rfl (uh HO2) v2 (tx t) rfl (uh hy2) (by rw[tx_length];omega) (uh HB2).size ?_)
  | go_in)
 intro v3 w3 hown3 hgrow3
 have hb3:Below w.heap.size w w3:=(uh HB2).grown hgrow3 (uh HB2).size (fun k hk=>((uh HO2).lt k hk).1)
 have HY3:Hid (Byt w3 v3 (tx s++tx t)):=byt_of_owns (by rw[List.map_append];exact hown3) (range_app (tx_range s ls) (tx_range t lt))
 clear hown3 hgrow3
 go_wp2
 go_ret2
 exact⟨_,rfl,HY3,hb3⟩
theorem pair_bad1 (s t:ByteArray) (w:World) (hl:s.size<=4611686018427387904) (hs:chk (sb s)≠0):Calls Tryz.prog 176 #[.string s,.string t] w (ValBad w):=by
 have HS:=zh hs
 clear hs
 go_enter Tryz.func176,Tryz.ntmps176
 go_wp2_with fail
 refine (tput_bad s _ hl (uh HS)).mono ?_
 rintro e w1 ⟨x,n,rfl,hi,hb1⟩
 go_wp2
 go_ret2
 exact⟨_,_,_,rfl,hi,hb1⟩
theorem pair_bad2 (s t:ByteArray) (w:World) (hl:t.size<=4611686018427387904) (hs:chk (sb s)=0) (ht:chk (sb t)≠0):Calls Tryz.prog 176 #[.string s,.string t] w (ValBad w):=by
 have HS:=zh hs
 have HT:=zh ht
 clear hs ht
 go_enter Tryz.func176,Tryz.ntmps176
 go_wp2_with fail
 refine (tput_ok s _ (uh HS)).mono ?_
 rintro e w1 ⟨v1,rfl,-,-,hb1⟩
 have HB1:=zh hb1
 clear hb1
 go_wp2_with fail
 refine (tput_bad t _ hl (uh HT)).mono ?_
 rintro e w2 ⟨x,n,rfl,hi,hb2⟩
 go_wp2
 go_ret2
 exact⟨_,_,_,rfl,hi,(uh HB1).trans (hb2.mono (uh HB1).size)⟩
theorem vput_use (n:Int) (w:World) (h0:0<=n) (h1:n<=268435455):Calls Tryz.prog 72 #[.int .i64 n] w (fun e w'=>∃ v,e=.returned (.tuple #[v,.nilIface])/\Hid (w'.ownsRow w.heap.size 5 1 v (V.put n).length ((V.put n).map (Value.int .u8)))/\Hid (Byt w' v (V.put n))/\Below w.heap.size w w'):=by
 refine (V.put_use n w h0 h1).mono ?_
 rintro e w' ⟨m,rfl,rfl,hown,hb⟩
 exact⟨_,rfl,hown,byt_of_owns (uh hown) (V.put_range n h0 h1),hb⟩
theorem nbs_range (k n:Int) (hk:k=1/\n<=1\/k=2/\n<=65535\/k=4/\n<=4294967295) (h0:0<=n):∀ j,0<=(nbs k n).getD j 0/\(nbs k n).getD j 0<=255:=by
 intro j
 unfold nbs
 rcases hk with⟨rfl,h⟩ | ⟨rfl,h⟩ | ⟨rfl,h⟩
 ·rw[if_pos rfl]
  rcases j with _ | j <;> simp <;> omega
 ·rw[if_neg (by omega),if_pos rfl]
  rcases j with _ | _ | j <;> simp <;> omega
 ·rw[if_neg (by omega),if_neg (by omega)]
  rcases j with _ | _ | _ | _ | j <;> simp <;> omega
theorem number_use (k n:Int) (w:World) (hk:k=1/\n<=1\/k=2/\n<=65535\/k=4/\n<=4294967295) (h0:0<=n):Calls Tryz.prog 175 #[.int .i64 n,.int .i64 k] w (fun e w'=>∃ v,e=.returned v/\Hid (Byt w' v (nbs k n))/\Below w.heap.size w w'):=by
 have hr:=nbs_range k n hk h0
 have key:∀ e w',NumPost k n w e w'->∃ v,e=.returned v/\Hid (Byt w' v (nbs k n))/\Below w.heap.size w w':=by
  rintro e w' ⟨v,rfl,hown,hb⟩
  exact⟨v,rfl,byt_of_owns (uh hown) hr,hb⟩
 rcases hk with⟨rfl,h⟩ | ⟨rfl,h⟩ | ⟨rfl,h⟩
 ·exact (num_1 n w h0 h).mono key
 ·exact (num_2 n w h0 h).mono key
 ·exact (num_4 n w h0 h).mono key
def numK (k n:Int):Prop:=k=1/\n<=1\/k=2/\n<=65535\/k=4/\n<=4294967295
theorem value_num (id n k:Int) (s t:ByteArray) (w:World) (lo hi:Int) (hsh:shv id=.agg #[.int .i64 1,.int .i64 k,.int .i64 lo,.int .i64 hi]) (hk:numK k n) (h0:0<=n) :
  Calls Tryz.prog 172 #[.agg #[.int .i64 id,.int .i64 n,.string s,.string t]] w (ValOk (nbs k n) w):=by
 have HSH:=zh hsh
 have HK:=zh hk
 clear hsh hk
 go_enter Tryz.func172,Tryz.ntmps172
 go_wp2_with fail
 refine (shape_use id 1 k lo hi (uh HSH) _).mono ?_
 rintro e w1 ⟨rfl,hb1⟩
 have HB1:=bal1 hb1
 have c1:w1.cell? ⟨w.heap.size,1,none⟩=some (.int .i64 n):=(hb1.cell (p:=⟨w.heap.size,1,none⟩) (by simp)).trans (by simp)
 have c2:w1.cell? ⟨w.heap.size,2,none⟩=some (.string s):=(hb1.cell (p:=⟨w.heap.size,2,none⟩) (by simp)).trans (by simp)
 have c3:w1.cell? ⟨w.heap.size,3,none⟩=some (.string t):=(hb1.cell (p:=⟨w.heap.size,3,none⟩) (by simp)).trans (by simp)
 have hlt:w.heap.size < w1.heap.size:=cell_lt c1
 clear hb1
 go_wp2_with fail
 refine (number_use k n _ (uh HK) h0).mono ?_
 rintro e w2 ⟨v,rfl,hy,hb2⟩
 go_wp2
 go_ret2
 exact⟨_,rfl,hy,(((uh HB1).alloc (uh HB1).size _).trans (hb2.mono (by simp;omega)))⟩
theorem value_var (id n:Int) (s t:ByteArray) (w:World) (wd lo hi:Int) (hsh:shv id=.agg #[.int .i64 2,.int .i64 wd,.int .i64 lo,.int .i64 hi]) (h0:0<=n) (h1:n<=268435455) :
  Calls Tryz.prog 172 #[.agg #[.int .i64 id,.int .i64 n,.string s,.string t]] w (ValOk (V.put n) w):=by
 have HSH:=zh hsh
 clear hsh
 go_enter Tryz.func172,Tryz.ntmps172
 go_wp2_with fail
 refine (shape_use id 2 wd lo hi (uh HSH) _).mono ?_
 rintro e w1 ⟨rfl,hb1⟩
 have HB1:=bal1 hb1
 have c1:w1.cell? ⟨w.heap.size,1,none⟩=some (.int .i64 n):=(hb1.cell (p:=⟨w.heap.size,1,none⟩) (by simp)).trans (by simp)
 have c2:w1.cell? ⟨w.heap.size,2,none⟩=some (.string s):=(hb1.cell (p:=⟨w.heap.size,2,none⟩) (by simp)).trans (by simp)
 have c3:w1.cell? ⟨w.heap.size,3,none⟩=some (.string t):=(hb1.cell (p:=⟨w.heap.size,3,none⟩) (by simp)).trans (by simp)
 have hlt:w.heap.size < w1.heap.size:=cell_lt c1
 clear hb1
 go_wp2_with fail
 refine (vput_use n _ h0 h1).mono ?_
 rintro e w2 ⟨v,rfl,-,hy,hb2⟩
 go_wp2
 go_ret2
 exact⟨_,rfl,hy,(((uh HB1).alloc (uh HB1).size _).trans (hb2.mono (by simp;omega)))⟩
theorem value_text (id n:Int) (s t:ByteArray) (w:World) (wd lo hi:Int) (hsh:shv id=.agg #[.int .i64 3,.int .i64 wd,.int .i64 lo,.int .i64 hi]) (hc:chk (sb s)=0) :
  Calls Tryz.prog 172 #[.agg #[.int .i64 id,.int .i64 n,.string s,.string t]] w (ValOk (tx s) w):=by
 have HSH:=zh hsh
 clear hsh
 have Hhc:=zh hc
 clear hc
 go_enter Tryz.func172,Tryz.ntmps172
 go_wp2_with fail
 refine (shape_use id 3 wd lo hi (uh HSH) _).mono ?_
 rintro e w1 ⟨rfl,hb1⟩
 have HB1:=bal1 hb1
 have c1:w1.cell? ⟨w.heap.size,1,none⟩=some (.int .i64 n):=(hb1.cell (p:=⟨w.heap.size,1,none⟩) (by simp)).trans (by simp)
 have c2:w1.cell? ⟨w.heap.size,2,none⟩=some (.string s):=(hb1.cell (p:=⟨w.heap.size,2,none⟩) (by simp)).trans (by simp)
 have c3:w1.cell? ⟨w.heap.size,3,none⟩=some (.string t):=(hb1.cell (p:=⟨w.heap.size,3,none⟩) (by simp)).trans (by simp)
 have hlt:w.heap.size < w1.heap.size:=cell_lt c1
 clear hb1
 go_wp2_with fail
 refine (tput_ok s _ (uh Hhc)).mono ?_
 rintro e w2 ⟨v,rfl,-,hy,hb2⟩
 go_wp2
 go_ret2
 exact⟨_,rfl,hy,(((uh HB1).alloc (uh HB1).size _).trans (hb2.mono (by simp;omega)))⟩
theorem value_text_bad (id n:Int) (s t:ByteArray) (w:World) (wd lo hi:Int) (hsh:shv id=.agg #[.int .i64 3,.int .i64 wd,.int .i64 lo,.int .i64 hi]) (hl:s.size<=4611686018427387904) (hc:chk (sb s)≠0) :
  Calls Tryz.prog 172 #[.agg #[.int .i64 id,.int .i64 n,.string s,.string t]] w (ValBad w):=by
 have HSH:=zh hsh
 clear hsh
 have Hhc:=zh hc
 clear hc
 go_enter Tryz.func172,Tryz.ntmps172
 go_wp2_with fail
 refine (shape_use id 3 wd lo hi (uh HSH) _).mono ?_
 rintro e w1 ⟨rfl,hb1⟩
 have HB1:=bal1 hb1
 have c1:w1.cell? ⟨w.heap.size,1,none⟩=some (.int .i64 n):=(hb1.cell (p:=⟨w.heap.size,1,none⟩) (by simp)).trans (by simp)
 have c2:w1.cell? ⟨w.heap.size,2,none⟩=some (.string s):=(hb1.cell (p:=⟨w.heap.size,2,none⟩) (by simp)).trans (by simp)
 have c3:w1.cell? ⟨w.heap.size,3,none⟩=some (.string t):=(hb1.cell (p:=⟨w.heap.size,3,none⟩) (by simp)).trans (by simp)
 have hlt:w.heap.size < w1.heap.size:=cell_lt c1
 clear hb1
 go_wp2_with fail
 refine (tput_bad s _ hl (uh Hhc)).mono ?_
 rintro e w2 ⟨x,m,rfl,hy,hb2⟩
 go_wp2
 go_ret2
 exact⟨_,_,_,rfl,hy,(((uh HB1).alloc (uh HB1).size _).trans (hb2.mono (by simp;omega)))⟩
theorem value_bin (id n:Int) (s t:ByteArray) (w:World) (wd lo hi:Int) (hsh:shv id=.agg #[.int .i64 4,.int .i64 wd,.int .i64 lo,.int .i64 hi]) (hc:s.size<=65535) :
  Calls Tryz.prog 172 #[.agg #[.int .i64 id,.int .i64 n,.string s,.string t]] w (ValOk (tx s) w):=by
 have HSH:=zh hsh
 clear hsh
 go_enter Tryz.func172,Tryz.ntmps172
 go_wp2_with fail
 refine (shape_use id 4 wd lo hi (uh HSH) _).mono ?_
 rintro e w1 ⟨rfl,hb1⟩
 have HB1:=bal1 hb1
 have c1:w1.cell? ⟨w.heap.size,1,none⟩=some (.int .i64 n):=(hb1.cell (p:=⟨w.heap.size,1,none⟩) (by simp)).trans (by simp)
 have c2:w1.cell? ⟨w.heap.size,2,none⟩=some (.string s):=(hb1.cell (p:=⟨w.heap.size,2,none⟩) (by simp)).trans (by simp)
 have c3:w1.cell? ⟨w.heap.size,3,none⟩=some (.string t):=(hb1.cell (p:=⟨w.heap.size,3,none⟩) (by simp)).trans (by simp)
 have hlt:w.heap.size < w1.heap.size:=cell_lt c1
 clear hb1
 go_wp2_with fail
 refine (putBin_ok s _ hc).mono ?_
 rintro e w2 ⟨v,rfl,hown,hb2⟩
 have hy:Hid (Byt w2 v (tx s)):=byt_of_owns (uh hown) (tx_range s hc)
 go_wp2
 go_ret2
 exact⟨_,rfl,hy,(((uh HB1).alloc (uh HB1).size _).trans (hb2.mono (by simp;omega)))⟩
theorem value_bin_bad (id n:Int) (s t:ByteArray) (w:World) (wd lo hi:Int) (hsh:shv id=.agg #[.int .i64 4,.int .i64 wd,.int .i64 lo,.int .i64 hi]) (hc:65535 < s.size) :
  Calls Tryz.prog 172 #[.agg #[.int .i64 id,.int .i64 n,.string s,.string t]] w (ValBad w):=by
 have HSH:=zh hsh
 clear hsh
 go_enter Tryz.func172,Tryz.ntmps172
 go_wp2_with fail
 refine (shape_use id 4 wd lo hi (uh HSH) _).mono ?_
 rintro e w1 ⟨rfl,hb1⟩
 have HB1:=bal1 hb1
 have c1:w1.cell? ⟨w.heap.size,1,none⟩=some (.int .i64 n):=(hb1.cell (p:=⟨w.heap.size,1,none⟩) (by simp)).trans (by simp)
 have c2:w1.cell? ⟨w.heap.size,2,none⟩=some (.string s):=(hb1.cell (p:=⟨w.heap.size,2,none⟩) (by simp)).trans (by simp)
 have c3:w1.cell? ⟨w.heap.size,3,none⟩=some (.string t):=(hb1.cell (p:=⟨w.heap.size,3,none⟩) (by simp)).trans (by simp)
 have hlt:w.heap.size < w1.heap.size:=cell_lt c1
 clear hb1
 go_wp2_with fail
 refine (putBin_bad s _ hc).mono ?_
 rintro e w2 ⟨rfl,hw2⟩
 have hb2:Below _ _ w2:=hw2 ▸ fault_below 2 _
 have hy:Hid (Inn w2 (.iface 118 (.pointer (some ⟨w1.heap.size+1,0,none⟩))) 2):=.inr ⟨_,rfl,by rw[hw2];simp⟩
 clear hw2
 go_wp2
 go_ret2
 exact⟨_,_,_,rfl,hy,(((uh HB1).alloc (uh HB1).size _).trans (hb2.mono (by simp;omega)))⟩
theorem value_pair (id n:Int) (s t:ByteArray) (w:World) (wd lo hi:Int) (hsh:shv id=.agg #[.int .i64 5,.int .i64 wd,.int .i64 lo,.int .i64 hi]) (hc:chk (sb s)=0) (hd:chk (sb t)=0) :
  Calls Tryz.prog 172 #[.agg #[.int .i64 id,.int .i64 n,.string s,.string t]] w (ValOk (tx s++tx t) w):=by
 have HSH:=zh hsh
 clear hsh
 have Hhc:=zh hc
 clear hc
 have Hhd:=zh hd
 clear hd
 go_enter Tryz.func172,Tryz.ntmps172
 go_wp2_with fail
 refine (shape_use id 5 wd lo hi (uh HSH) _).mono ?_
 rintro e w1 ⟨rfl,hb1⟩
 have HB1:=bal1 hb1
 have c1:w1.cell? ⟨w.heap.size,1,none⟩=some (.int .i64 n):=(hb1.cell (p:=⟨w.heap.size,1,none⟩) (by simp)).trans (by simp)
 have c2:w1.cell? ⟨w.heap.size,2,none⟩=some (.string s):=(hb1.cell (p:=⟨w.heap.size,2,none⟩) (by simp)).trans (by simp)
 have c3:w1.cell? ⟨w.heap.size,3,none⟩=some (.string t):=(hb1.cell (p:=⟨w.heap.size,3,none⟩) (by simp)).trans (by simp)
 have hlt:w.heap.size < w1.heap.size:=cell_lt c1
 clear hb1
 go_wp2_with fail
 refine (pair_ok s t _ (uh Hhc) (uh Hhd)).mono ?_
 rintro e w2 ⟨v,rfl,hy,hb2⟩
 go_wp2
 go_ret2
 exact⟨_,rfl,hy,(((uh HB1).alloc (uh HB1).size _).trans (hb2.mono (by simp;omega)))⟩
theorem value_pair_bad1 (id n:Int) (s t:ByteArray) (w:World) (wd lo hi:Int) (hsh:shv id=.agg #[.int .i64 5,.int .i64 wd,.int .i64 lo,.int .i64 hi]) (hl:s.size<=4611686018427387904) (hc:chk (sb s)≠0) :
  Calls Tryz.prog 172 #[.agg #[.int .i64 id,.int .i64 n,.string s,.string t]] w (ValBad w):=by
 have HSH:=zh hsh
 clear hsh
 have Hhc:=zh hc
 clear hc
 go_enter Tryz.func172,Tryz.ntmps172
 go_wp2_with fail
 refine (shape_use id 5 wd lo hi (uh HSH) _).mono ?_
 rintro e w1 ⟨rfl,hb1⟩
 have HB1:=bal1 hb1
 have c1:w1.cell? ⟨w.heap.size,1,none⟩=some (.int .i64 n):=(hb1.cell (p:=⟨w.heap.size,1,none⟩) (by simp)).trans (by simp)
 have c2:w1.cell? ⟨w.heap.size,2,none⟩=some (.string s):=(hb1.cell (p:=⟨w.heap.size,2,none⟩) (by simp)).trans (by simp)
 have c3:w1.cell? ⟨w.heap.size,3,none⟩=some (.string t):=(hb1.cell (p:=⟨w.heap.size,3,none⟩) (by simp)).trans (by simp)
 have hlt:w.heap.size < w1.heap.size:=cell_lt c1
 clear hb1
 go_wp2_with fail
 refine (pair_bad1 s t _ hl (uh Hhc)).mono ?_
 rintro e w2 ⟨t',x,m,rfl,hy,hb2⟩
 go_wp2
 go_ret2
 exact⟨_,_,_,rfl,hy,(((uh HB1).alloc (uh HB1).size _).trans (hb2.mono (by simp;omega)))⟩
theorem value_pair_bad2 (id n:Int) (s t:ByteArray) (w:World) (wd lo hi:Int) (hsh:shv id=.agg #[.int .i64 5,.int .i64 wd,.int .i64 lo,.int .i64 hi]) (hl:t.size<=4611686018427387904) (hc:chk (sb s)=0) (hd:chk (sb t)≠0) :
  Calls Tryz.prog 172 #[.agg #[.int .i64 id,.int .i64 n,.string s,.string t]] w (ValBad w):=by
 have HSH:=zh hsh
 clear hsh
 have Hhc:=zh hc
 clear hc
 have Hhd:=zh hd
 clear hd
 go_enter Tryz.func172,Tryz.ntmps172
 go_wp2_with fail
 refine (shape_use id 5 wd lo hi (uh HSH) _).mono ?_
 rintro e w1 ⟨rfl,hb1⟩
 have HB1:=bal1 hb1
 have c1:w1.cell? ⟨w.heap.size,1,none⟩=some (.int .i64 n):=(hb1.cell (p:=⟨w.heap.size,1,none⟩) (by simp)).trans (by simp)
 have c2:w1.cell? ⟨w.heap.size,2,none⟩=some (.string s):=(hb1.cell (p:=⟨w.heap.size,2,none⟩) (by simp)).trans (by simp)
 have c3:w1.cell? ⟨w.heap.size,3,none⟩=some (.string t):=(hb1.cell (p:=⟨w.heap.size,3,none⟩) (by simp)).trans (by simp)
 have hlt:w.heap.size < w1.heap.size:=cell_lt c1
 clear hb1
 go_wp2_with fail
 refine (pair_bad2 s t _ hl (uh Hhc) (uh Hhd)).mono ?_
 rintro e w2 ⟨t',x,m,rfl,hy,hb2⟩
 go_wp2
 go_ret2
 exact⟨_,_,_,rfl,hy,(((uh HB1).alloc (uh HB1).size _).trans (hb2.mono (by simp;omega)))⟩
end Go.Proofs.YtpheelbbpiieiaaGreatDoor
