/- Proved here: helpers, one text behind the other. -/
import Derived.Deep.RegionHeld3
import Derived.Test.YtpheelbbpiieiaaGreatDoorZC6
import Derived.Test.YtpheelbbpiieiaaGreatDoorZC9
import Derived.Test.YtpheelbbpiieiaaGreatDoorZC5
set_option maxHeartbeats 20000000
namespace Go.Proofs.YtpheelbbpiieiaaGreatDoor
open Go.RowKit
set_option maxRecDepth 100000
theorem stand_use (id place:Int) (b:Bool) (h:mst id place=b) (w:World):Calls Tryz.prog 160 #[.int .i64 id,.int .i64 place] w fun e w'=>e=.returned (.bool b)/\Below w.heap.size w w':=by
 subst h
 exact stand_any id place w
theorem shape_use (id f wd lo hi:Int) (h:shv id=.agg #[.int .i64 f,.int .i64 wd,.int .i64 lo,.int .i64 hi]) (w:World):Calls Tryz.prog 159 #[.int .i64 id] w fun e w'=>e=.returned (.agg #[.int .i64 f,.int .i64 wd,.int .i64 lo,.int .i64 hi])/\Below w.heap.size w w':=by
 rw[<- h]
 exact shape_any id w
theorem fits_is (f wd lo hi id n:Int) (s t:ByteArray) (b:Bool) (h:fitB f lo hi n s t=b) (w:World) :
  Calls Tryz.prog 161 #[.agg #[.int .i64 f,.int .i64 wd,.int .i64 lo,.int .i64 hi],.agg #[.int .i64 id,.int .i64 n,.string s,.string t]] w fun e w'=>e=.returned (.bool b)/\Below w.heap.size w w':=by
 subst h
 exact fits_any f wd lo hi id n s t w
theorem repeat_is (id place:Int) (b:Bool) (h:rep id place=b) (w:World):Calls Tryz.prog 162 #[.int .i64 id,.int .i64 place] w fun e w'=>e=.returned (.bool b)/\w'=w:=by
 subst h
 exact repeat_any id place w
theorem below_undrew1 {a w:World} (h:Below a.drew.heap.size a.drew w):Below a.heap.size a w:=⟨h.os,h.tape,h.output,h.size,h.block⟩
def TakeS (R B:Nat) (place id n:Int) (s t:ByteArray) (w:World):Prop :=
 w.cell? ⟨R,0,none⟩=some (.int .i64 place)/\w.cell? ⟨B,0,none⟩=some (.int .i64 id)/\w.cell? ⟨B,1,none⟩=some (.int .i64 n)/\w.cell? ⟨B,2,none⟩=some (.string s)/\w.cell? ⟨B,3,none⟩=some (.string t)
theorem TakeS.below {R B:Nat} {place id n:Int} {s t:ByteArray} {w w':World} (h:TakeS R B place id n s t w) (hb:Below w.heap.size w w'):TakeS R B place id n s t w':=by
 obtain⟨h0,h1,h2,h3,h4⟩:=h
 exact⟨(hb.cell (cell_lt h0)).trans h0,(hb.cell (cell_lt h1)).trans h1,(hb.cell (cell_lt h2)).trans h2,(hb.cell (cell_lt h3)).trans h3,(hb.cell (cell_lt h4)).trans h4⟩
theorem takeS_box (R:Nat) (place id n:Int) (s t:ByteArray) (w:World) (hR:w.cell? ⟨R,0,none⟩=some (.int .i64 place)):TakeS R w.heap.size place id n s t (w.alloc (.cells #[.int .i64 id,.int .i64 n,.string s,.string t] 109)) :=
 ⟨by rw[World.cell?_alloc_lt _ _ ⟨R,0,none⟩ (cell_lt hR)];exact hR,by simp,by simp,by simp,by simp⟩
def TakeNo (w:World) (e:Ending) (w':World):Prop:=∃ E,e=.returned (.iface 118 E)/\Hid (ErrP w' (.iface 118 E) 1)/\Below w.heap.size w w'
theorem take_no1 (R:Nat) (place id n:Int) (s t:ByteArray) (w:World) (hR:w.cell? ⟨R,0,none⟩=some (.int .i64 place)) (hm:mst id place=false) :
  Calls Tryz.prog 146 #[.pointer (some ⟨R,0,none⟩),.agg #[.int .i64 id,.int .i64 n,.string s,.string t]] w (TakeNo w):=by
 have HS0:Hid (TakeS R w.heap.size place id n s t (w.alloc (.cells #[.int .i64 id,.int .i64 n,.string s,.string t] 109))):=takeS_box R place id n s t w hR
 have HB0:Hid (Below w.heap.size w (w.alloc (.cells #[.int .i64 id,.int .i64 n,.string s,.string t] 109))):=bal _ _
 clear hR
 go_enter Tryz.func146,Tryz.ntmps146
 go_wp2_with fail
 generalize w.alloc (.cells #[.int .i64 id,.int .i64 n,.string s,.string t] 109)=W0 at HS0 HB0 |-
 refine wp_region_noPanic ?_
 refine wp_region_held_drew (S:=(fun w'=>w'.cell? ⟨R,0,none⟩=some (.int .i64 place)/\w'.cell? ⟨w.heap.size,0,none⟩=some (.int .i64 id)/\w'.cell? ⟨w.heap.size,1,none⟩=some (.int .i64 n)/\w'.cell? ⟨w.heap.size,2,none⟩=some (.string s)/\w'.cell? ⟨w.heap.size,3,none⟩=some (.string t))) (by kernel_rfl) ((uh HS0).below (below_drewN (Below.refl _ _) 1)) (fun hHeld=>?_)
 refine rtk 0 (h:=?_)
 refine rtk 1 (h:=?_)
 refine rtk 2 (h:=?_)
 refine rtk 3 (h:=?_)
 refine rtk 4 (h:=?_)
 refine rtk 5 (h:=?_)
 refine rcl 6 (h:=fun K hK=>?_)
 go_simp
 refine (stand_use _ place false hm _).mono ?_
 rintro e w1 ⟨rfl,hb1⟩
 have HB1:Hid (Below W0.heap.size W0 w1):=below_undrew1 hb1
 have HS1:Hid (TakeS R w.heap.size place id n s t w1):=(uh HS0).below (uh HB1)
 clear hb1
 go_wp2_with fail
 refine hK.out _ _ (by exact uh HS1) (fun hHeld=>?_)
 clear hK K
 refine rtk 7 (h:=?_)
 refine rtk 8 (h:=?_)
 refine rsk 9 (h:=?_)
 refine rsk 10 (h:=?_)
 refine rsk 11 (h:=?_)
 refine rsk 12 (h:=?_)
 refine rsk 13 (h:=?_)
 refine rsk 14 (h:=?_)
 refine rtk 15 (h:=?_)
 refine wpAnyH_done (by kernel_rfl) ?_ _
 refine NoPanic.normal ?_
 go_wp2_with (go_at_call 118;refine (pfault_use 1 _).mono ?_;rintro e w9 ⟨E,rfl,hE,hb9⟩)
 go_ret
 exact⟨E,rfl,hE,(uh HB0).trans (((uh HB1).trans (hb9.mono (uh HB1).size)).mono (uh HB0).size)⟩
theorem take_no2 (R:Nat) (place id n:Int) (s t:ByteArray) (w:World) (hR:w.cell? ⟨R,0,none⟩=some (.int .i64 place)) (hm:mst id place=true) (hf:fit (id,n,s,t)=false) :
  Calls Tryz.prog 146 #[.pointer (some ⟨R,0,none⟩),.agg #[.int .i64 id,.int .i64 n,.string s,.string t]] w (TakeNo w):=by
 have HSH:Hid (shv id=.agg #[.int .i64 (frm id),.int .i64 (wid id),.int .i64 (lst id),.int .i64 (mx id)]):=rfl
 rw[fit_eq]at hf
 generalize frm id=f at HSH hf
 generalize wid id=wd at HSH
 generalize lst id=lo at HSH hf
 generalize mx id=hi at HSH hf
 have HS0:Hid (TakeS R w.heap.size place id n s t (w.alloc (.cells #[.int .i64 id,.int .i64 n,.string s,.string t] 109))):=takeS_box R place id n s t w hR
 have HB0:Hid (Below w.heap.size w (w.alloc (.cells #[.int .i64 id,.int .i64 n,.string s,.string t] 109))):=bal _ _
 clear hR
 go_enter Tryz.func146,Tryz.ntmps146
 go_wp2_with fail
 generalize w.alloc (.cells #[.int .i64 id,.int .i64 n,.string s,.string t] 109)=W0 at HS0 HB0 |-
 refine wp_region_noPanic ?_
 refine wp_region_held_drew (S:=(fun w'=>w'.cell? ⟨R,0,none⟩=some (.int .i64 place)/\w'.cell? ⟨w.heap.size,0,none⟩=some (.int .i64 id)/\w'.cell? ⟨w.heap.size,1,none⟩=some (.int .i64 n)/\w'.cell? ⟨w.heap.size,2,none⟩=some (.string s)/\w'.cell? ⟨w.heap.size,3,none⟩=some (.string t))) (by kernel_rfl) ((uh HS0).below (below_drewN (Below.refl _ _) 1)) (fun hHeld=>?_)
 refine rtk 0 (h:=?_)
 refine rtk 1 (h:=?_)
 refine rtk 2 (h:=?_)
 refine rtk 3 (h:=?_)
 refine rtk 4 (h:=?_)
 refine rtk 5 (h:=?_)
 refine rcl 6 (h:=fun K hK=>?_)
 go_simp
 refine (stand_use _ place true hm _).mono ?_
 rintro e w1 ⟨rfl,hb1⟩
 have HB1:Hid (Below W0.heap.size W0 w1):=below_undrew1 hb1
 have HS1:Hid (TakeS R w.heap.size place id n s t w1):=(uh HS0).below (uh HB1)
 clear hb1
 go_wp2_with fail
 refine hK.out _ _ (by exact uh HS1) (fun hHeld=>?_)
 clear hK K
 refine rtk 7 (h:=?_)
 refine rtk 8 (h:=?_)
 refine rtk 9 (h:=?_)
 refine rtk 10 (h:=?_)
 refine rtk 12 (h:=?_)
 refine rcl 11 (h:=fun K hK=>?_)
 go_simp
 refine (shape_use _ f wd lo hi (uh HSH) _).mono ?_
 rintro e w2 ⟨rfl,hb2⟩
 have HB2:Hid (Below W0.heap.size W0 w2):=(uh HB1).trans (hb2.mono (uh HB1).size)
 have HS2:Hid (TakeS R w.heap.size place id n s t w2):=(uh HS0).below (uh HB2)
 clear hb2 HB1 HS1
 go_wp2_with fail
 refine hK.out _ _ (by exact uh HS2) (fun hHeld=>?_)
 clear hK K
 refine rcl 13 (h:=fun K hK=>?_)
 go_simp
 refine (fits_is f wd lo hi _ n s t false hf _).mono ?_
 rintro e w3 ⟨rfl,hb3⟩
 have HB3:Hid (Below W0.heap.size W0 w3):=(uh HB2).trans (hb3.mono (uh HB2).size)
 have HS3:Hid (TakeS R w.heap.size place id n s t w3):=(uh HS0).below (uh HB3)
 clear hb3 HB2 HS2
 go_wp2_with fail
 refine hK.out _ _ (by exact uh HS3) (fun hHeld=>?_)
 clear hK K
 refine rtk 14 (h:=?_)
 refine rtk 15 (h:=?_)
 refine wpAnyH_done (by kernel_rfl) ?_ _
 refine NoPanic.normal ?_
 go_wp2_with (go_at_call 118;refine (pfault_use 1 _).mono ?_;rintro e w9 ⟨E,rfl,hE,hb9⟩)
 go_ret
 exact⟨E,rfl,hE,(uh HB0).trans (((uh HB3).trans (hb9.mono (uh HB3).size)).mono (uh HB0).size)⟩
theorem take_no3 (R k:Nat) (place n:Int) (s t:ByteArray) (w:World) (hk:k<=42) (hR:w.cell? ⟨R,0,none⟩=some (.int .i64 place)) (hsn:w.cell? ⟨R,1+k,none⟩=some (.bool true)) (hm:mst k place=true) (hf:fit (k,n,s,t)=true) (hr:rep k place=false) :
  Calls Tryz.prog 146 #[.pointer (some ⟨R,0,none⟩),.agg #[.int .i64 (k:Int),.int .i64 n,.string s,.string t]] w (TakeNo w):=by
 have HSH:Hid (shv (k:Int)=.agg #[.int .i64 (frm (k:Int)),.int .i64 (wid (k:Int)),.int .i64 (lst (k:Int)),.int .i64 (mx (k:Int))]):=rfl
 rw[fit_eq]at hf
 generalize frm (k:Int)=f at HSH hf
 generalize wid (k:Int)=wd at HSH
 generalize lst (k:Int)=lo at HSH hf
 generalize mx (k:Int)=hi at HSH hf
 have HQ:Hid ((w.alloc (.cells #[.int .i64 (k:Int),.int .i64 n,.string s,.string t] 109)).cell? ⟨R,1+k,none⟩=some (.bool true)):=by
  show _=_
  rw[World.cell?_alloc_lt _ _ ⟨R,1+k,none⟩ (cell_lt hsn)];exact hsn
 clear hsn
 have HS0:Hid (TakeS R w.heap.size place (k:Int) n s t (w.alloc (.cells #[.int .i64 (k:Int),.int .i64 n,.string s,.string t] 109))):=takeS_box R place (k:Int) n s t w hR
 have HB0:Hid (Below w.heap.size w (w.alloc (.cells #[.int .i64 (k:Int),.int .i64 n,.string s,.string t] 109))):=bal _ _
 clear hR
 go_enter Tryz.func146,Tryz.ntmps146
 go_wp2_with fail
 generalize w.alloc (.cells #[.int .i64 (k:Int),.int .i64 n,.string s,.string t] 109)=W0 at HS0 HB0 HQ |-
 refine wp_region_noPanic ?_
 refine wp_region_held_drew (S:=(fun w'=>w'.cell? ⟨R,0,none⟩=some (.int .i64 place)/\w'.cell? ⟨w.heap.size,0,none⟩=some (.int .i64 (k:Int))/\w'.cell? ⟨w.heap.size,1,none⟩=some (.int .i64 n)/\w'.cell? ⟨w.heap.size,2,none⟩=some (.string s)/\w'.cell? ⟨w.heap.size,3,none⟩=some (.string t))) (by kernel_rfl) ((uh HS0).below (below_drewN (Below.refl _ _) 1)) (fun hHeld=>?_)
 refine rtk 0 (h:=?_)
 refine rtk 1 (h:=?_)
 refine rtk 2 (h:=?_)
 refine rtk 3 (h:=?_)
 refine rtk 4 (h:=?_)
 refine rtk 5 (h:=?_)
 refine rcl 6 (h:=fun K hK=>?_)
 go_simp
 refine (stand_use _ place true hm _).mono ?_
 rintro e w1 ⟨rfl,hb1⟩
 have HB1:Hid (Below W0.heap.size W0 w1):=below_undrew1 hb1
 have HS1:Hid (TakeS R w.heap.size place (k:Int) n s t w1):=(uh HS0).below (uh HB1)
 clear hb1
 go_wp2_with fail
 refine hK.out _ _ (by exact uh HS1) (fun hHeld=>?_)
 clear hK K
 refine rtk 7 (h:=?_)
 refine rtk 8 (h:=?_)
 refine rtk 9 (h:=?_)
 refine rtk 10 (h:=?_)
 refine rtk 12 (h:=?_)
 refine rcl 11 (h:=fun K hK=>?_)
 go_simp
 refine (shape_use _ f wd lo hi (uh HSH) _).mono ?_
 rintro e w2 ⟨rfl,hb2⟩
 have HB2:Hid (Below W0.heap.size W0 w2):=(uh HB1).trans (hb2.mono (uh HB1).size)
 have HS2:Hid (TakeS R w.heap.size place (k:Int) n s t w2):=(uh HS0).below (uh HB2)
 clear hb2 HB1 HS1
 go_wp2_with fail
 refine hK.out _ _ (by exact uh HS2) (fun hHeld=>?_)
 clear hK K
 refine rcl 13 (h:=fun K hK=>?_)
 go_simp
 refine (fits_is f wd lo hi _ n s t true hf _).mono ?_
 rintro e w3 ⟨rfl,hb3⟩
 have HB3:Hid (Below W0.heap.size W0 w3):=(uh HB2).trans (hb3.mono (uh HB2).size)
 have HS3:Hid (TakeS R w.heap.size place (k:Int) n s t w3):=(uh HS0).below (uh HB3)
 clear hb3 HB2 HS2
 go_wp2_with fail
 refine hK.out _ _ (by exact uh HS3) (fun hHeld=>?_)
 clear hK K
 refine rtk 14 (h:=?_)
 refine rtk 15 (h:=?_)
 refine wpAnyH_done (by kernel_rfl) ?_ _
 refine NoPanic.normal ?_
 have HQ0:Hid (W0.cell? ⟨R,1+k,none⟩=some (.bool true)):=by show _=_;exact uh HQ
 have HQ3:Hid (w3.cell? ⟨R,1+k,none⟩=some (.bool true)):=((uh HB3).cell (cell_lt (uh HQ0))).trans (uh HQ0)
 go_wp2_with fail
 refine wp_region_noPanic ?_
 refine wp_region_held_drew (S:=(fun w'=>w'.cell? ⟨R,0,none⟩=some (.int .i64 place)/\w'.cell? ⟨w.heap.size,0,none⟩=some (.int .i64 (k:Int))/\w'.cell? ⟨R,1+k,none⟩=some (.bool true))) (by kernel_rfl) ⟨(uh HS3).1,(uh HS3).2.1,uh HQ3⟩ (fun hHeld=>?_)
 refine rtk 0 (h:=?_)
 refine rtk 1 (h:=?_)
 refine rtk 2 (h:=?_)
 refine rtk 3 (h:=?_)
 refine rtk 4 (h:=?_)
 refine rtk 5 (h:=?_)
 refine rtk 6 (h:=?_)
 refine rtk 7 (h:=?_)
 refine rtk 8 (h:=?_)
 refine rtk 9 (h:=?_)
 refine rtk 10 (h:=?_)
 refine rtk 11 (h:=?_)
 refine rtk 12 (h:=?_)
 refine rtk 13 (h:=?_)
 refine rcl 14 (h:=fun K hK=>?_)
 go_simp
 refine (repeat_is _ place false hr _).mono ?_
 rintro e w4 ⟨rfl,hw4⟩
 obtain rfl:=hw4.symm
 clear hw4
 go_wp2_with fail
 refine hK.out _ _ (by assumption) (fun hHeld=>?_)
 clear hK K
 refine rtk 15 (h:=?_)
 refine rtk 16 (h:=?_)
 refine wpAnyH_done (by kernel_rfl) ?_ _
 refine NoPanic.normal ?_
 have HB4:Hid (Below W0.heap.size W0 w3.drew):=below_drewN (uh HB3) 1
 go_wp2_with (go_at_call 118;refine (pfault_use 1 _).mono ?_;rintro e w9 ⟨E,rfl,hE,hb9⟩)
 go_ret
 exact⟨E,rfl,hE,(uh HB0).trans (((uh HB4).trans (hb9.mono (uh HB4).size)).mono (uh HB0).size)⟩
theorem take_ok0 (R k:Nat) (place n:Int) (s t:ByteArray) (w:World) (hk:k<=42) (hR:w.cell? ⟨R,0,none⟩=some (.int .i64 place)) (hsn:w.cell? ⟨R,1+k,none⟩=some (.bool false)) (hfz:w.frozen? ⟨R,1+k,none⟩=false) (hm:mst k place=true) (hf:fit (k,n,s,t)=true) :
  Calls Tryz.prog 146 #[.pointer (some ⟨R,0,none⟩),.agg #[.int .i64 (k:Int),.int .i64 n,.string s,.string t]] w (fun e w'=>e=.returned .nilIface/\∃ w1,Below w.heap.size w w1/\w'=w1.setCell ⟨R,1+k,none⟩ (.bool true)):=by
 have HSH:Hid (shv (k:Int)=.agg #[.int .i64 (frm (k:Int)),.int .i64 (wid (k:Int)),.int .i64 (lst (k:Int)),.int .i64 (mx (k:Int))]):=rfl
 rw[fit_eq]at hf
 generalize frm (k:Int)=f at HSH hf
 generalize wid (k:Int)=wd at HSH
 generalize lst (k:Int)=lo at HSH hf
 generalize mx (k:Int)=hi at HSH hf
 have hRl:R < w.heap.size:=cell_lt hR
 have HQ:Hid ((w.alloc (.cells #[.int .i64 (k:Int),.int .i64 n,.string s,.string t] 109)).cell? ⟨R,1+k,none⟩=some (.bool false)):=by
  show _=_
  rw[World.cell?_alloc_lt _ _ ⟨R,1+k,none⟩ (cell_lt hsn)];exact hsn
 clear hsn
 have HS0:Hid (TakeS R w.heap.size place (k:Int) n s t (w.alloc (.cells #[.int .i64 (k:Int),.int .i64 n,.string s,.string t] 109))):=takeS_box R place (k:Int) n s t w hR
 have HB0:Hid (Below w.heap.size w (w.alloc (.cells #[.int .i64 (k:Int),.int .i64 n,.string s,.string t] 109))):=bal _ _
 clear hR
 go_enter Tryz.func146,Tryz.ntmps146
 go_wp2_with fail
 generalize w.alloc (.cells #[.int .i64 (k:Int),.int .i64 n,.string s,.string t] 109)=W0 at HS0 HB0 HQ |-
 refine wp_region_noPanic ?_
 refine wp_region_held_drew (S:=(fun w'=>w'.cell? ⟨R,0,none⟩=some (.int .i64 place)/\w'.cell? ⟨w.heap.size,0,none⟩=some (.int .i64 (k:Int))/\w'.cell? ⟨w.heap.size,1,none⟩=some (.int .i64 n)/\w'.cell? ⟨w.heap.size,2,none⟩=some (.string s)/\w'.cell? ⟨w.heap.size,3,none⟩=some (.string t))) (by kernel_rfl) ((uh HS0).below (below_drewN (Below.refl _ _) 1)) (fun hHeld=>?_)
 refine rtk 0 (h:=?_)
 refine rtk 1 (h:=?_)
 refine rtk 2 (h:=?_)
 refine rtk 3 (h:=?_)
 refine rtk 4 (h:=?_)
 refine rtk 5 (h:=?_)
 refine rcl 6 (h:=fun K hK=>?_)
 go_simp
 refine (stand_use _ place true hm _).mono ?_
 rintro e w1 ⟨rfl,hb1⟩
 have HB1:Hid (Below W0.heap.size W0 w1):=below_undrew1 hb1
 have HS1:Hid (TakeS R w.heap.size place (k:Int) n s t w1):=(uh HS0).below (uh HB1)
 clear hb1
 go_wp2_with fail
 refine hK.out _ _ (by exact uh HS1) (fun hHeld=>?_)
 clear hK K
 refine rtk 7 (h:=?_)
 refine rtk 8 (h:=?_)
 refine rtk 9 (h:=?_)
 refine rtk 10 (h:=?_)
 refine rtk 12 (h:=?_)
 refine rcl 11 (h:=fun K hK=>?_)
 go_simp
 refine (shape_use _ f wd lo hi (uh HSH) _).mono ?_
 rintro e w2 ⟨rfl,hb2⟩
 have HB2:Hid (Below W0.heap.size W0 w2):=(uh HB1).trans (hb2.mono (uh HB1).size)
 have HS2:Hid (TakeS R w.heap.size place (k:Int) n s t w2):=(uh HS0).below (uh HB2)
 clear hb2 HB1 HS1
 go_wp2_with fail
 refine hK.out _ _ (by exact uh HS2) (fun hHeld=>?_)
 clear hK K
 refine rcl 13 (h:=fun K hK=>?_)
 go_simp
 refine (fits_is f wd lo hi _ n s t true hf _).mono ?_
 rintro e w3 ⟨rfl,hb3⟩
 have HB3:Hid (Below W0.heap.size W0 w3):=(uh HB2).trans (hb3.mono (uh HB2).size)
 have HS3:Hid (TakeS R w.heap.size place (k:Int) n s t w3):=(uh HS0).below (uh HB3)
 clear hb3 HB2 HS2
 go_wp2_with fail
 refine hK.out _ _ (by exact uh HS3) (fun hHeld=>?_)
 clear hK K
 refine rtk 14 (h:=?_)
 refine rtk 15 (h:=?_)
 refine wpAnyH_done (by kernel_rfl) ?_ _
 refine NoPanic.normal ?_
 have HQ0:Hid (W0.cell? ⟨R,1+k,none⟩=some (.bool false)):=by show _=_;exact uh HQ
 have HQ3:Hid (w3.cell? ⟨R,1+k,none⟩=some (.bool false)):=((uh HB3).cell (cell_lt (uh HQ0))).trans (uh HQ0)
 go_wp2_with fail
 refine wp_region_noPanic ?_
 refine wp_region_held_drew (S:=(fun w'=>w'.cell? ⟨R,0,none⟩=some (.int .i64 place)/\w'.cell? ⟨w.heap.size,0,none⟩=some (.int .i64 (k:Int))/\w'.cell? ⟨R,1+k,none⟩=some (.bool false))) (by kernel_rfl) ⟨(uh HS3).1,(uh HS3).2.1,uh HQ3⟩ (fun hHeld=>?_)
 refine rtk 0 (h:=?_)
 refine rtk 1 (h:=?_)
 refine rtk 2 (h:=?_)
 refine rtk 3 (h:=?_)
 refine rtk 4 (h:=?_)
 refine rtk 5 (h:=?_)
 refine rtk 6 (h:=?_)
 refine rtk 7 (h:=?_)
 refine rsk 8 (h:=?_)
 refine rsk 9 (h:=?_)
 refine rsk 10 (h:=?_)
 refine rsk 11 (h:=?_)
 refine rsk 12 (h:=?_)
 refine rsk 13 (h:=?_)
 refine rsk 14 (h:=?_)
 refine rsk 15 (h:=?_)
 refine rtk 16 (h:=?_)
 refine wpAnyH_done (by kernel_rfl) ?_ _
 refine NoPanic.normal ?_
 have hq4:w3.drew.cell? ⟨R,1+k,none⟩=some (.bool false):=by exact uh HQ3
 have hx4:w3.drew.cell? ⟨w.heap.size,0,none⟩=some (.int .i64 (k:Int)):=by exact (uh HS3).2.1
 have HB4:Hid (Below w.heap.size w w3.drew):=below_drewN ((uh HB0).trans ((uh HB3).mono (uh HB0).size)) 1
 have hz4:w3.drew.frozen? ⟨R,1+k,none⟩=false:=((uh HB4).frozen (p:=⟨R,1+k,none⟩) hRl).trans hfz
 clear HB3 HS3 HQ3 HQ0 HS0 HB0 HQ hfz HSH hf hm hHeld
 generalize w3.drew=w4 at hq4 hx4 HB4 hz4 |-
 go_wp2_with fail
 refine wp_region_noPanic ?_
 refine wp_region_held_drew (S:=(fun w'=>w'.cell? ⟨w.heap.size,0,none⟩=some (.int .i64 (k:Int)))) (by kernel_rfl) (by exact hx4) (fun hHeld=>?_)
 refine rtk 0 (h:=?_)
 refine rtk 1 (h:=?_)
 refine rtk 2 (h:=?_)
 refine rtk 3 (h:=?_)
 refine rtk 4 (h:=?_)
 refine rtk 5 (h:=?_)
 have hq5:w4.drew.cell? ⟨R,1+k,none⟩=some (.bool false):=hq4
 have hz5:w4.drew.frozen? ⟨R,1+k,none⟩=false:=hz4
 refine rcl 6 (h:=fun K hK=>?_)
 go_simp
 refine hK.out _ _ (by show (w4.setCell ⟨R,1+k,none⟩ (.bool true)).cell? _=_;rw[World.cell?_setCell_far _ _ _ _ (by simp;omega)];exact hx4) (fun hHeld=>?_)
 clear hK K
 refine wpAnyH_done (by kernel_rfl) ?_ _
 refine NoPanic.normal ?_
 go_wp2
 go_ret
 exact⟨rfl,w4.drew,below_drewN (uh HB4) 1,rfl⟩
theorem take_ok1 (R k:Nat) (place n:Int) (s t:ByteArray) (w:World) (hk:k<=42) (hR:w.cell? ⟨R,0,none⟩=some (.int .i64 place)) (hsn:w.cell? ⟨R,1+k,none⟩=some (.bool true)) (hfz:w.frozen? ⟨R,1+k,none⟩=false) (hm:mst k place=true) (hf:fit (k,n,s,t)=true) (hr:rep k place=true) :
  Calls Tryz.prog 146 #[.pointer (some ⟨R,0,none⟩),.agg #[.int .i64 (k:Int),.int .i64 n,.string s,.string t]] w (fun e w'=>e=.returned .nilIface/\∃ w1,Below w.heap.size w w1/\w'=w1.setCell ⟨R,1+k,none⟩ (.bool true)):=by
 have HSH:Hid (shv (k:Int)=.agg #[.int .i64 (frm (k:Int)),.int .i64 (wid (k:Int)),.int .i64 (lst (k:Int)),.int .i64 (mx (k:Int))]):=rfl
 rw[fit_eq]at hf
 generalize frm (k:Int)=f at HSH hf
 generalize wid (k:Int)=wd at HSH
 generalize lst (k:Int)=lo at HSH hf
 generalize mx (k:Int)=hi at HSH hf
 have hRl:R < w.heap.size:=cell_lt hR
 have HQ:Hid ((w.alloc (.cells #[.int .i64 (k:Int),.int .i64 n,.string s,.string t] 109)).cell? ⟨R,1+k,none⟩=some (.bool true)):=by
  show _=_
  rw[World.cell?_alloc_lt _ _ ⟨R,1+k,none⟩ (cell_lt hsn)];exact hsn
 clear hsn
 have HS0:Hid (TakeS R w.heap.size place (k:Int) n s t (w.alloc (.cells #[.int .i64 (k:Int),.int .i64 n,.string s,.string t] 109))):=takeS_box R place (k:Int) n s t w hR
 have HB0:Hid (Below w.heap.size w (w.alloc (.cells #[.int .i64 (k:Int),.int .i64 n,.string s,.string t] 109))):=bal _ _
 clear hR
 go_enter Tryz.func146,Tryz.ntmps146
 go_wp2_with fail
 generalize w.alloc (.cells #[.int .i64 (k:Int),.int .i64 n,.string s,.string t] 109)=W0 at HS0 HB0 HQ |-
 refine wp_region_noPanic ?_
 refine wp_region_held_drew (S:=(fun w'=>w'.cell? ⟨R,0,none⟩=some (.int .i64 place)/\w'.cell? ⟨w.heap.size,0,none⟩=some (.int .i64 (k:Int))/\w'.cell? ⟨w.heap.size,1,none⟩=some (.int .i64 n)/\w'.cell? ⟨w.heap.size,2,none⟩=some (.string s)/\w'.cell? ⟨w.heap.size,3,none⟩=some (.string t))) (by kernel_rfl) ((uh HS0).below (below_drewN (Below.refl _ _) 1)) (fun hHeld=>?_)
 refine rtk 0 (h:=?_)
 refine rtk 1 (h:=?_)
 refine rtk 2 (h:=?_)
 refine rtk 3 (h:=?_)
 refine rtk 4 (h:=?_)
 refine rtk 5 (h:=?_)
 refine rcl 6 (h:=fun K hK=>?_)
 go_simp
 refine (stand_use _ place true hm _).mono ?_
 rintro e w1 ⟨rfl,hb1⟩
 have HB1:Hid (Below W0.heap.size W0 w1):=below_undrew1 hb1
 have HS1:Hid (TakeS R w.heap.size place (k:Int) n s t w1):=(uh HS0).below (uh HB1)
 clear hb1
 go_wp2_with fail
 refine hK.out _ _ (by exact uh HS1) (fun hHeld=>?_)
 clear hK K
 refine rtk 7 (h:=?_)
 refine rtk 8 (h:=?_)
 refine rtk 9 (h:=?_)
 refine rtk 10 (h:=?_)
 refine rtk 12 (h:=?_)
 refine rcl 11 (h:=fun K hK=>?_)
 go_simp
 refine (shape_use _ f wd lo hi (uh HSH) _).mono ?_
 rintro e w2 ⟨rfl,hb2⟩
 have HB2:Hid (Below W0.heap.size W0 w2):=(uh HB1).trans (hb2.mono (uh HB1).size)
 have HS2:Hid (TakeS R w.heap.size place (k:Int) n s t w2):=(uh HS0).below (uh HB2)
 clear hb2 HB1 HS1
 go_wp2_with fail
 refine hK.out _ _ (by exact uh HS2) (fun hHeld=>?_)
 clear hK K
 refine rcl 13 (h:=fun K hK=>?_)
 go_simp
 refine (fits_is f wd lo hi _ n s t true hf _).mono ?_
 rintro e w3 ⟨rfl,hb3⟩
 have HB3:Hid (Below W0.heap.size W0 w3):=(uh HB2).trans (hb3.mono (uh HB2).size)
 have HS3:Hid (TakeS R w.heap.size place (k:Int) n s t w3):=(uh HS0).below (uh HB3)
 clear hb3 HB2 HS2
 go_wp2_with fail
 refine hK.out _ _ (by exact uh HS3) (fun hHeld=>?_)
 clear hK K
 refine rtk 14 (h:=?_)
 refine rtk 15 (h:=?_)
 refine wpAnyH_done (by kernel_rfl) ?_ _
 refine NoPanic.normal ?_
 have HQ0:Hid (W0.cell? ⟨R,1+k,none⟩=some (.bool true)):=by show _=_;exact uh HQ
 have HQ3:Hid (w3.cell? ⟨R,1+k,none⟩=some (.bool true)):=((uh HB3).cell (cell_lt (uh HQ0))).trans (uh HQ0)
 go_wp2_with fail
 refine wp_region_noPanic ?_
 refine wp_region_held_drew (S:=(fun w'=>w'.cell? ⟨R,0,none⟩=some (.int .i64 place)/\w'.cell? ⟨w.heap.size,0,none⟩=some (.int .i64 (k:Int))/\w'.cell? ⟨R,1+k,none⟩=some (.bool true))) (by kernel_rfl) ⟨(uh HS3).1,(uh HS3).2.1,uh HQ3⟩ (fun hHeld=>?_)
 refine rtk 0 (h:=?_)
 refine rtk 1 (h:=?_)
 refine rtk 2 (h:=?_)
 refine rtk 3 (h:=?_)
 refine rtk 4 (h:=?_)
 refine rtk 5 (h:=?_)
 refine rtk 6 (h:=?_)
 refine rtk 7 (h:=?_)
 refine rtk 8 (h:=?_)
 refine rtk 9 (h:=?_)
 refine rtk 10 (h:=?_)
 refine rtk 11 (h:=?_)
 refine rtk 12 (h:=?_)
 refine rtk 13 (h:=?_)
 refine rcl 14 (h:=fun K hK=>?_)
 go_simp
 refine (repeat_is _ place true hr _).mono ?_
 rintro e w4 ⟨rfl,hw4⟩
 obtain rfl:=hw4.symm
 clear hw4
 go_wp2_with fail
 refine hK.out _ _ (by assumption) (fun hHeld=>?_)
 clear hK K
 refine rtk 15 (h:=?_)
 refine rtk 16 (h:=?_)
 refine wpAnyH_done (by kernel_rfl) ?_ _
 refine NoPanic.normal ?_
 have hq4:w3.drew.cell? ⟨R,1+k,none⟩=some (.bool true):=by exact uh HQ3
 have hx4:w3.drew.cell? ⟨w.heap.size,0,none⟩=some (.int .i64 (k:Int)):=by exact (uh HS3).2.1
 have HB4:Hid (Below w.heap.size w w3.drew):=below_drewN ((uh HB0).trans ((uh HB3).mono (uh HB0).size)) 1
 have hz4:w3.drew.frozen? ⟨R,1+k,none⟩=false:=((uh HB4).frozen (p:=⟨R,1+k,none⟩) hRl).trans hfz
 clear HB3 HS3 HQ3 HQ0 HS0 HB0 HQ hfz HSH hf hm hHeld
 generalize w3.drew=w4 at hq4 hx4 HB4 hz4 |-
 go_wp2_with fail
 refine wp_region_noPanic ?_
 refine wp_region_held_drew (S:=(fun w'=>w'.cell? ⟨w.heap.size,0,none⟩=some (.int .i64 (k:Int)))) (by kernel_rfl) (by exact hx4) (fun hHeld=>?_)
 refine rtk 0 (h:=?_)
 refine rtk 1 (h:=?_)
 refine rtk 2 (h:=?_)
 refine rtk 3 (h:=?_)
 refine rtk 4 (h:=?_)
 refine rtk 5 (h:=?_)
 have hq5:w4.drew.cell? ⟨R,1+k,none⟩=some (.bool true):=hq4
 have hz5:w4.drew.frozen? ⟨R,1+k,none⟩=false:=hz4
 refine rcl 6 (h:=fun K hK=>?_)
 go_simp
 refine hK.out _ _ (by show (w4.setCell ⟨R,1+k,none⟩ (.bool true)).cell? _=_;rw[World.cell?_setCell_far _ _ _ _ (by simp;omega)];exact hx4) (fun hHeld=>?_)
 clear hK K
 refine wpAnyH_done (by kernel_rfl) ?_ _
 refine NoPanic.normal ?_
 go_wp2
 go_ret
 exact⟨rfl,w4.drew,below_drewN (uh HB4) 1,rfl⟩
end Go.Proofs.YtpheelbbpiieiaaGreatDoor
