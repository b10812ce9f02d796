/- Proved here: helpers, one text behind the other. -/
import Derived.Test.YtpheelbbpiieiaaGreatDoorProg
import Derived.Laws.BitsAllLaws
import Derived.Deep.RegionHeld3
import Derived.Test.YtpheelbbpiieiaaGreatDoorZC6
import Derived.Test.YtpheelbbpiieiaaGreatDoorZC5
set_option maxHeartbeats 20000000
namespace Go.Proofs.YtpheelbbpiieiaaGreatDoor.K
open Go.RowKit
set_option maxRecDepth 100000
structure Sl where
 ao:Option Addr
 n:Nat
 cap:Nat
structure Pkv where
 kind:Int
 dup:Bool
 qos:Int
 retain:Bool
 topic:ByteArray
 id:Int
 payload:ByteArray
 props:Sl
 client:ByteArray
 clean:Bool
 keep:Int
 wills:Sl
 user:Sl
 pass:Sl
 code:Int
 session:Bool
 subs:Sl
 filters:Sl
 codes:Sl
abbrev Sl.val (s:Sl):Value:=.slice s.ao s.n s.cap
abbrev Pkv.val (p:Pkv):Value:=.agg #[.int .i64 p.kind,.bool p.dup,.int .i64 p.qos,.bool p.retain,.string p.topic,.int .i64 p.id,.string p.payload,p.props.val,.string p.client,.bool p.clean,.int .i64 p.keep,p.wills.val,p.user.val,p.pass.val,.int .i64 p.code,.bool p.session,p.subs.val,p.filters.val,p.codes.val]
def mq (n:Int):Bool:=decide (0<=n) && decide (n<=2)
theorem mayQoS_any (n:Int) (w:World):Calls Tryz.prog 76 #[.int .i64 n] w fun e w'=>e=.returned (.bool (mq n))/\w'=w:=by
 by_cases h0:0<=n
 ·by_cases h2:n<=2
  ·go_enter Tryz.func76,Tryz.ntmps76
   go_wp2
   go_ret
   exact⟨by unfold mq;rw[decide_eq_true h0,decide_eq_true h2];rfl,rfl⟩
  ·go_enter Tryz.func76,Tryz.ntmps76
   go_wp2
   go_ret
   exact⟨by unfold mq;rw[decide_eq_true h0,decide_eq_false (by omega)];rfl,rfl⟩
 ·go_enter Tryz.func76,Tryz.ntmps76
  go_wp2
  go_ret
  exact⟨by unfold mq;rw[decide_eq_false (by omega)];rfl,rfl⟩
def mc (n:Int):Bool:=decide (1<=n) && decide (n<=16)
theorem flag_any (b:Bool) (n:Int) (w:World):Calls Tryz.prog 77 #[.bool b,.int .i64 n] w fun e w'=>e=.returned (.int .i64 (if b then n else 0))/\w'=w:=by
 cases b
 ·go_enter Tryz.func77,Tryz.ntmps77
  go_wp2
  go_ret
  exact⟨rfl,rfl⟩
 ·go_enter Tryz.func77,Tryz.ntmps77
  go_wp2
  go_ret
  exact⟨rfl,rfl⟩
theorem flagsOf_fixed (p:Pkv) (w:World) (h:p.kind=6\/p.kind=8\/p.kind=10):Calls Tryz.prog 49 #[p.val] w fun e w'=>e=.returned (.tuple #[.int .i64 2,.bool true])/\Below w.heap.size w w':=by
 obtain⟨kind,dup,qos,retain,topic,id,payload,⟨a1,n1,c1⟩,client,clean,keep,⟨a2,n2,c2⟩,⟨a3,n3,c3⟩,⟨a4,n4,c4⟩,code,session,⟨a5,n5,c5⟩,⟨a6,n6,c6⟩,⟨a7,n7,c7⟩⟩:=p
 simp only at h
 rcases h with rfl | rfl | rfl
 ·go_enter Tryz.func49,Tryz.ntmps49
  go_wp2
  go_returns
  exact⟨rfl,by go_grown⟩
 ·go_enter Tryz.func49,Tryz.ntmps49
  go_wp2
  go_returns
  exact⟨rfl,by go_grown⟩
 ·go_enter Tryz.func49,Tryz.ntmps49
  go_wp2
  go_returns
  exact⟨rfl,by go_grown⟩
def fv (b:Bool) (n:Int):Int:=if b then n else 0
theorem flag_is (b:Bool) (n:Int) (w:World):Calls Tryz.prog 77 #[.bool b,.int .i64 n] w fun e w'=>e=.returned (.int .i64 (fv b n))/\w'=w:=flag_any b n w
theorem mayQoS_is (n:Int) (b:Bool) (h:mq n=b) (w:World):Calls Tryz.prog 76 #[.int .i64 n] w fun e w'=>e=.returned (.bool b)/\w'=w:=by
 subst h
 exact mayQoS_any n w
theorem kbelow_drew (w:World):Below w.heap.size w w.drew:=below_drewN (Below.refl _ _) 1
theorem flagsOf_other (p:Pkv) (w:World) (h3:p.kind≠3) (h6:p.kind≠6) (h8:p.kind≠8) (h10:p.kind≠10):Calls Tryz.prog 49 #[p.val] w fun e w'=>e=.returned (.tuple #[.int .i64 0,.bool (decide (1<=p.kind) && decide (p.kind<=15))])/\Below w.heap.size w w':=by
 obtain⟨kind,dup,qos,retain,topic,id,payload,⟨a1,n1,c1⟩,client,clean,keep,⟨a2,n2,c2⟩,⟨a3,n3,c3⟩,⟨a4,n4,c4⟩,code,session,⟨a5,n5,c5⟩,⟨a6,n6,c6⟩,⟨a7,n7,c7⟩⟩:=p
 simp only at h3 h6 h8 h10
 by_cases h1:1<=kind
 ·by_cases h15:kind<=15
  ·have b2:decide (kind<=15)=true:=by simpa using h15
   go_enter Tryz.func49,Tryz.ntmps49
   go_wp2_with fail
   refine wp_region_noPanic ?_
   refine wp_region_held_drew (S:=(fun w'=>w'.cell? ⟨w.heap.size,0,none⟩=some (.int .i64 kind))) (by kernel_rfl) (by simp) (fun hHeld=>?_)
   refine rtk 0 (h:=?_)
   refine rtk 1 (h:=?_)
   refine rtk 2 (h:=?_)
   refine rtk 3 (h:=?_)
   refine rtk 4 (h:=?_)
   refine rtk 5 (h:=?_)
   refine rtk 6 (h:=?_)
   refine rtk 7 (h:=?_)
   refine rcl 8 (h:=fun K hK=>?_)
   go_simp
   refine hK.out _ _ (by simp) (fun hHeld=>?_)
   clear hK K
   refine rcl 9 (h:=fun K hK=>?_)
   go_simp
   refine hK.out _ _ (by simp) (fun hHeld=>?_)
   clear hK K
   refine wpAnyH_done (by kernel_rfl) ?_ _
   refine NoPanic.normal ?_
   go_wp2
   go_returns
   exact⟨by simp[h1,h15],by go_grown⟩
  ·have b2:decide (kind<=15)=false:=by simpa using h15
   go_enter Tryz.func49,Tryz.ntmps49
   go_wp2_with fail
   refine wp_region_noPanic ?_
   refine wp_region_held_drew (S:=(fun w'=>w'.cell? ⟨w.heap.size,0,none⟩=some (.int .i64 kind))) (by kernel_rfl) (by simp) (fun hHeld=>?_)
   refine rtk 0 (h:=?_)
   refine rtk 1 (h:=?_)
   refine rtk 2 (h:=?_)
   refine rtk 3 (h:=?_)
   refine rtk 4 (h:=?_)
   refine rtk 5 (h:=?_)
   refine rtk 6 (h:=?_)
   refine rtk 7 (h:=?_)
   refine rcl 8 (h:=fun K hK=>?_)
   go_simp
   refine hK.out _ _ (by simp) (fun hHeld=>?_)
   clear hK K
   refine rcl 9 (h:=fun K hK=>?_)
   go_simp
   refine hK.out _ _ (by simp) (fun hHeld=>?_)
   clear hK K
   refine wpAnyH_done (by kernel_rfl) ?_ _
   refine NoPanic.normal ?_
   go_wp2
   go_returns
   exact⟨by simp[h1,h15],by go_grown⟩
 ·have b1:decide (1<=kind)=false:=by simpa using h1
  have b0:decide (kind ≥ 1)=false:=by simpa using h1
  go_enter Tryz.func49,Tryz.ntmps49
  go_wp2_with fail
  refine wp_region_noPanic ?_
  refine wp_region_held_drew (S:=(fun w'=>w'.cell? ⟨w.heap.size,0,none⟩=some (.int .i64 kind))) (by kernel_rfl) (by simp) (fun hHeld=>?_)
  refine rtk 0 (h:=?_)
  refine rtk 1 (h:=?_)
  refine rtk 2 (h:=?_)
  refine rtk 3 (h:=?_)
  refine rsk 4 (h:=?_)
  refine rsk 5 (h:=?_)
  refine rsk 6 (h:=?_)
  refine rtk 7 (h:=?_)
  refine rcl 8 (h:=fun K hK=>?_)
  go_simp
  refine hK.out _ _ (by simp) (fun hHeld=>?_)
  clear hK K
  refine rcl 9 (h:=fun K hK=>?_)
  go_simp
  refine hK.out _ _ (by simp) (fun hHeld=>?_)
  clear hK K
  refine wpAnyH_done (by kernel_rfl) ?_ _
  refine NoPanic.normal ?_
  go_wp2
  go_returns
  exact⟨by simp[b1],by go_grown⟩
def pfl (dup:Bool) (qos:Int) (retain:Bool):Int:=bits .or .i64 (bits .or .i64 (fv dup 8) (IntKind.i64.wrap (qos * 2))) (fv retain 1)
def pok (dup:Bool) (qos:Int):Bool:=mq qos && (decide (0 < qos) || !dup)
theorem flagsOf_pub (p:Pkv) (w:World) (h3:p.kind=3):Calls Tryz.prog 49 #[p.val] w fun e w'=>e=.returned (.tuple #[.int .i64 (pfl p.dup p.qos p.retain),.bool (pok p.dup p.qos)])/\Below w.heap.size w w':=by
 obtain⟨kind,dup,qos,retain,topic,id,payload,⟨a1,n1,c1⟩,client,clean,keep,⟨a2,n2,c2⟩,⟨a3,n3,c3⟩,⟨a4,n4,c4⟩,code,session,⟨a5,n5,c5⟩,⟨a6,n6,c6⟩,⟨a7,n7,c7⟩⟩:=p
 simp only at h3
 subst h3
 by_cases hq:0 < qos
 ·cases hm:mq qos
  ·cases dup
   ·go_enter Tryz.func49,Tryz.ntmps49
    go_wp2_with fail
    refine (mayQoS_is qos _ hm _).mono ?_
    rintro e w1 ⟨rfl,hw1⟩
    obtain rfl:=hw1.symm
    clear hw1
    go_wp2_with fail
    refine wp_region_noPanic ?_
    refine wp_region_held_drew (S:=(fun w'=>w'.cell? ⟨w.heap.size,1,none⟩=some (.bool false)/\w'.cell? ⟨w.heap.size,2,none⟩=some (.int .i64 qos)/\w'.cell? ⟨w.heap.size,3,none⟩=some (.bool retain))) (by kernel_rfl) (by simp) (fun hHeld=>?_)
    refine rtk 0 (h:=?_)
    refine rtk 1 (h:=?_)
    refine rtk 3 (h:=?_)
    refine rtk 4 (h:=?_)
    refine rtk 5 (h:=?_)
    refine rtk 7 (h:=?_)
    refine rtk 8 (h:=?_)
    refine rtk 11 (h:=?_)
    refine rcl 2 (h:=fun K hK=>?_)
    go_simp
    refine (flag_is _ _ _).mono ?_
    rintro e w2 ⟨rfl,hw2⟩
    obtain rfl:=hw2.symm
    clear hw2
    refine hK.out _ _ (by simp) (fun hHeld=>?_)
    clear hK K
    refine rtk 6 (h:=?_)
    refine rcl 9 (h:=fun K hK=>?_)
    go_simp
    refine (flag_is _ _ _).mono ?_
    rintro e w2 ⟨rfl,hw2⟩
    obtain rfl:=hw2.symm
    clear hw2
    refine hK.out _ _ (by simp) (fun hHeld=>?_)
    clear hK K
    refine rtk 10 (h:=?_)
    refine rcl 12 (h:=fun K hK=>?_)
    go_simp
    refine hK.out _ _ (by simp) (fun hHeld=>?_)
    clear hK K
    refine rcl 13 (h:=fun K hK=>?_)
    go_simp
    refine hK.out _ _ (by simp) (fun hHeld=>?_)
    clear hK K
    refine wpAnyH_done (by kernel_rfl) ?_ _
    refine NoPanic.normal ?_
    go_wp2
    go_returns
    exact⟨by first | (simp[pok,pfl,hm];done) | simp[pok,pfl,hm,hq],by go_grown⟩
   ·go_enter Tryz.func49,Tryz.ntmps49
    go_wp2_with fail
    refine (mayQoS_is qos _ hm _).mono ?_
    rintro e w1 ⟨rfl,hw1⟩
    obtain rfl:=hw1.symm
    clear hw1
    go_wp2_with fail
    refine wp_region_noPanic ?_
    refine wp_region_held_drew (S:=(fun w'=>w'.cell? ⟨w.heap.size,1,none⟩=some (.bool true)/\w'.cell? ⟨w.heap.size,2,none⟩=some (.int .i64 qos)/\w'.cell? ⟨w.heap.size,3,none⟩=some (.bool retain))) (by kernel_rfl) (by simp) (fun hHeld=>?_)
    refine rtk 0 (h:=?_)
    refine rtk 1 (h:=?_)
    refine rtk 3 (h:=?_)
    refine rtk 4 (h:=?_)
    refine rtk 5 (h:=?_)
    refine rtk 7 (h:=?_)
    refine rtk 8 (h:=?_)
    refine rtk 11 (h:=?_)
    refine rcl 2 (h:=fun K hK=>?_)
    go_simp
    refine (flag_is _ _ _).mono ?_
    rintro e w2 ⟨rfl,hw2⟩
    obtain rfl:=hw2.symm
    clear hw2
    refine hK.out _ _ (by simp) (fun hHeld=>?_)
    clear hK K
    refine rtk 6 (h:=?_)
    refine rcl 9 (h:=fun K hK=>?_)
    go_simp
    refine (flag_is _ _ _).mono ?_
    rintro e w2 ⟨rfl,hw2⟩
    obtain rfl:=hw2.symm
    clear hw2
    refine hK.out _ _ (by simp) (fun hHeld=>?_)
    clear hK K
    refine rtk 10 (h:=?_)
    refine rcl 12 (h:=fun K hK=>?_)
    go_simp
    refine hK.out _ _ (by simp) (fun hHeld=>?_)
    clear hK K
    refine rcl 13 (h:=fun K hK=>?_)
    go_simp
    refine hK.out _ _ (by simp) (fun hHeld=>?_)
    clear hK K
    refine wpAnyH_done (by kernel_rfl) ?_ _
    refine NoPanic.normal ?_
    go_wp2
    go_returns
    exact⟨by first | (simp[pok,pfl,hm];done) | simp[pok,pfl,hm,hq],by go_grown⟩
  ·cases dup
   ·go_enter Tryz.func49,Tryz.ntmps49
    go_wp2_with fail
    refine (mayQoS_is qos _ hm _).mono ?_
    rintro e w1 ⟨rfl,hw1⟩
    obtain rfl:=hw1.symm
    clear hw1
    go_wp2_with fail
    refine wp_region_noPanic ?_
    refine wp_region_held_drew (S:=(fun w'=>w'.cell? ⟨w.heap.size,1,none⟩=some (.bool false)/\w'.cell? ⟨w.heap.size,2,none⟩=some (.int .i64 qos)/\w'.cell? ⟨w.heap.size,3,none⟩=some (.bool retain))) (by kernel_rfl) (by simp) (fun hHeld=>?_)
    refine rtk 0 (h:=?_)
    refine rtk 1 (h:=?_)
    refine rtk 3 (h:=?_)
    refine rtk 4 (h:=?_)
    refine rtk 5 (h:=?_)
    refine rtk 7 (h:=?_)
    refine rtk 8 (h:=?_)
    refine rtk 11 (h:=?_)
    refine rcl 2 (h:=fun K hK=>?_)
    go_simp
    refine (flag_is _ _ _).mono ?_
    rintro e w2 ⟨rfl,hw2⟩
    obtain rfl:=hw2.symm
    clear hw2
    refine hK.out _ _ (by simp) (fun hHeld=>?_)
    clear hK K
    refine rtk 6 (h:=?_)
    refine rcl 9 (h:=fun K hK=>?_)
    go_simp
    refine (flag_is _ _ _).mono ?_
    rintro e w2 ⟨rfl,hw2⟩
    obtain rfl:=hw2.symm
    clear hw2
    refine hK.out _ _ (by simp) (fun hHeld=>?_)
    clear hK K
    refine rtk 10 (h:=?_)
    refine rcl 12 (h:=fun K hK=>?_)
    go_simp
    refine hK.out _ _ (by simp) (fun hHeld=>?_)
    clear hK K
    refine rcl 13 (h:=fun K hK=>?_)
    go_simp
    refine hK.out _ _ (by simp) (fun hHeld=>?_)
    clear hK K
    refine wpAnyH_done (by kernel_rfl) ?_ _
    refine NoPanic.normal ?_
    go_wp2
    go_returns
    exact⟨by first | (simp[pok,pfl,hm];done) | simp[pok,pfl,hm,hq],by go_grown⟩
   ·go_enter Tryz.func49,Tryz.ntmps49
    go_wp2_with fail
    refine (mayQoS_is qos _ hm _).mono ?_
    rintro e w1 ⟨rfl,hw1⟩
    obtain rfl:=hw1.symm
    clear hw1
    go_wp2_with fail
    refine wp_region_noPanic ?_
    refine wp_region_held_drew (S:=(fun w'=>w'.cell? ⟨w.heap.size,1,none⟩=some (.bool true)/\w'.cell? ⟨w.heap.size,2,none⟩=some (.int .i64 qos)/\w'.cell? ⟨w.heap.size,3,none⟩=some (.bool retain))) (by kernel_rfl) (by simp) (fun hHeld=>?_)
    refine rtk 0 (h:=?_)
    refine rtk 1 (h:=?_)
    refine rtk 3 (h:=?_)
    refine rtk 4 (h:=?_)
    refine rtk 5 (h:=?_)
    refine rtk 7 (h:=?_)
    refine rtk 8 (h:=?_)
    refine rtk 11 (h:=?_)
    refine rcl 2 (h:=fun K hK=>?_)
    go_simp
    refine (flag_is _ _ _).mono ?_
    rintro e w2 ⟨rfl,hw2⟩
    obtain rfl:=hw2.symm
    clear hw2
    refine hK.out _ _ (by simp) (fun hHeld=>?_)
    clear hK K
    refine rtk 6 (h:=?_)
    refine rcl 9 (h:=fun K hK=>?_)
    go_simp
    refine (flag_is _ _ _).mono ?_
    rintro e w2 ⟨rfl,hw2⟩
    obtain rfl:=hw2.symm
    clear hw2
    refine hK.out _ _ (by simp) (fun hHeld=>?_)
    clear hK K
    refine rtk 10 (h:=?_)
    refine rcl 12 (h:=fun K hK=>?_)
    go_simp
    refine hK.out _ _ (by simp) (fun hHeld=>?_)
    clear hK K
    refine rcl 13 (h:=fun K hK=>?_)
    go_simp
    refine hK.out _ _ (by simp) (fun hHeld=>?_)
    clear hK K
    refine wpAnyH_done (by kernel_rfl) ?_ _
    refine NoPanic.normal ?_
    go_wp2
    go_returns
    exact⟨by first | (simp[pok,pfl,hm];done) | simp[pok,pfl,hm,hq],by go_grown⟩
 ·cases hm:mq qos
  ·cases dup
   ·go_enter Tryz.func49,Tryz.ntmps49
    go_wp2_with fail
    refine (mayQoS_is qos _ hm _).mono ?_
    rintro e w1 ⟨rfl,hw1⟩
    obtain rfl:=hw1.symm
    clear hw1
    go_wp2_with fail
    refine wp_region_noPanic ?_
    refine wp_region_held_drew (S:=(fun w'=>w'.cell? ⟨w.heap.size,1,none⟩=some (.bool false)/\w'.cell? ⟨w.heap.size,2,none⟩=some (.int .i64 qos)/\w'.cell? ⟨w.heap.size,3,none⟩=some (.bool retain))) (by kernel_rfl) (by simp) (fun hHeld=>?_)
    refine rtk 0 (h:=?_)
    refine rtk 1 (h:=?_)
    refine rtk 3 (h:=?_)
    refine rtk 4 (h:=?_)
    refine rtk 5 (h:=?_)
    refine rtk 7 (h:=?_)
    refine rtk 8 (h:=?_)
    refine rtk 11 (h:=?_)
    refine rcl 2 (h:=fun K hK=>?_)
    go_simp
    refine (flag_is _ _ _).mono ?_
    rintro e w2 ⟨rfl,hw2⟩
    obtain rfl:=hw2.symm
    clear hw2
    refine hK.out _ _ (by simp) (fun hHeld=>?_)
    clear hK K
    refine rtk 6 (h:=?_)
    refine rcl 9 (h:=fun K hK=>?_)
    go_simp
    refine (flag_is _ _ _).mono ?_
    rintro e w2 ⟨rfl,hw2⟩
    obtain rfl:=hw2.symm
    clear hw2
    refine hK.out _ _ (by simp) (fun hHeld=>?_)
    clear hK K
    refine rtk 10 (h:=?_)
    refine rcl 12 (h:=fun K hK=>?_)
    go_simp
    refine hK.out _ _ (by simp) (fun hHeld=>?_)
    clear hK K
    refine rcl 13 (h:=fun K hK=>?_)
    go_simp
    refine hK.out _ _ (by simp) (fun hHeld=>?_)
    clear hK K
    refine wpAnyH_done (by kernel_rfl) ?_ _
    refine NoPanic.normal ?_
    go_wp2
    go_returns
    exact⟨by first | (simp[pok,pfl,hm];done) | simp[pok,pfl,hm,hq],by go_grown⟩
   ·go_enter Tryz.func49,Tryz.ntmps49
    go_wp2_with fail
    refine (mayQoS_is qos _ hm _).mono ?_
    rintro e w1 ⟨rfl,hw1⟩
    obtain rfl:=hw1.symm
    clear hw1
    go_wp2_with fail
    refine wp_region_noPanic ?_
    refine wp_region_held_drew (S:=(fun w'=>w'.cell? ⟨w.heap.size,1,none⟩=some (.bool true)/\w'.cell? ⟨w.heap.size,2,none⟩=some (.int .i64 qos)/\w'.cell? ⟨w.heap.size,3,none⟩=some (.bool retain))) (by kernel_rfl) (by simp) (fun hHeld=>?_)
    refine rtk 0 (h:=?_)
    refine rtk 1 (h:=?_)
    refine rtk 3 (h:=?_)
    refine rtk 4 (h:=?_)
    refine rtk 5 (h:=?_)
    refine rtk 7 (h:=?_)
    refine rtk 8 (h:=?_)
    refine rtk 11 (h:=?_)
    refine rcl 2 (h:=fun K hK=>?_)
    go_simp
    refine (flag_is _ _ _).mono ?_
    rintro e w2 ⟨rfl,hw2⟩
    obtain rfl:=hw2.symm
    clear hw2
    refine hK.out _ _ (by simp) (fun hHeld=>?_)
    clear hK K
    refine rtk 6 (h:=?_)
    refine rcl 9 (h:=fun K hK=>?_)
    go_simp
    refine (flag_is _ _ _).mono ?_
    rintro e w2 ⟨rfl,hw2⟩
    obtain rfl:=hw2.symm
    clear hw2
    refine hK.out _ _ (by simp) (fun hHeld=>?_)
    clear hK K
    refine rtk 10 (h:=?_)
    refine rcl 12 (h:=fun K hK=>?_)
    go_simp
    refine hK.out _ _ (by simp) (fun hHeld=>?_)
    clear hK K
    refine rcl 13 (h:=fun K hK=>?_)
    go_simp
    refine hK.out _ _ (by simp) (fun hHeld=>?_)
    clear hK K
    refine wpAnyH_done (by kernel_rfl) ?_ _
    refine NoPanic.normal ?_
    go_wp2
    go_returns
    exact⟨by first | (simp[pok,pfl,hm];done) | simp[pok,pfl,hm,hq],by go_grown⟩
  ·cases dup
   ·go_enter Tryz.func49,Tryz.ntmps49
    go_wp2_with fail
    refine (mayQoS_is qos _ hm _).mono ?_
    rintro e w1 ⟨rfl,hw1⟩
    obtain rfl:=hw1.symm
    clear hw1
    go_wp2_with fail
    refine wp_region_noPanic ?_
    refine wp_region_held_drew (S:=(fun w'=>w'.cell? ⟨w.heap.size,1,none⟩=some (.bool false)/\w'.cell? ⟨w.heap.size,2,none⟩=some (.int .i64 qos)/\w'.cell? ⟨w.heap.size,3,none⟩=some (.bool retain))) (by kernel_rfl) (by simp) (fun hHeld=>?_)
    refine rtk 0 (h:=?_)
    refine rtk 1 (h:=?_)
    refine rtk 3 (h:=?_)
    refine rtk 4 (h:=?_)
    refine rtk 5 (h:=?_)
    refine rtk 7 (h:=?_)
    refine rtk 8 (h:=?_)
    refine rtk 11 (h:=?_)
    refine rcl 2 (h:=fun K hK=>?_)
    go_simp
    refine (flag_is _ _ _).mono ?_
    rintro e w2 ⟨rfl,hw2⟩
    obtain rfl:=hw2.symm
    clear hw2
    refine hK.out _ _ (by simp) (fun hHeld=>?_)
    clear hK K
    refine rtk 6 (h:=?_)
    refine rcl 9 (h:=fun K hK=>?_)
    go_simp
    refine (flag_is _ _ _).mono ?_
    rintro e w2 ⟨rfl,hw2⟩
    obtain rfl:=hw2.symm
    clear hw2
    refine hK.out _ _ (by simp) (fun hHeld=>?_)
    clear hK K
    refine rtk 10 (h:=?_)
    refine rcl 12 (h:=fun K hK=>?_)
    go_simp
    refine hK.out _ _ (by simp) (fun hHeld=>?_)
    clear hK K
    refine rcl 13 (h:=fun K hK=>?_)
    go_simp
    refine hK.out _ _ (by simp) (fun hHeld=>?_)
    clear hK K
    refine wpAnyH_done (by kernel_rfl) ?_ _
    refine NoPanic.normal ?_
    go_wp2
    go_returns
    exact⟨by first | (simp[pok,pfl,hm];done) | simp[pok,pfl,hm,hq],by go_grown⟩
   ·go_enter Tryz.func49,Tryz.ntmps49
    go_wp2_with fail
    refine (mayQoS_is qos _ hm _).mono ?_
    rintro e w1 ⟨rfl,hw1⟩
    obtain rfl:=hw1.symm
    clear hw1
    go_wp2_with fail
    refine wp_region_noPanic ?_
    refine wp_region_held_drew (S:=(fun w'=>w'.cell? ⟨w.heap.size,1,none⟩=some (.bool true)/\w'.cell? ⟨w.heap.size,2,none⟩=some (.int .i64 qos)/\w'.cell? ⟨w.heap.size,3,none⟩=some (.bool retain))) (by kernel_rfl) (by simp) (fun hHeld=>?_)
    refine rtk 0 (h:=?_)
    refine rtk 1 (h:=?_)
    refine rtk 3 (h:=?_)
    refine rtk 4 (h:=?_)
    refine rtk 5 (h:=?_)
    refine rtk 7 (h:=?_)
    refine rtk 8 (h:=?_)
    refine rtk 11 (h:=?_)
    refine rcl 2 (h:=fun K hK=>?_)
    go_simp
    refine (flag_is _ _ _).mono ?_
    rintro e w2 ⟨rfl,hw2⟩
    obtain rfl:=hw2.symm
    clear hw2
    refine hK.out _ _ (by simp) (fun hHeld=>?_)
    clear hK K
    refine rtk 6 (h:=?_)
    refine rcl 9 (h:=fun K hK=>?_)
    go_simp
    refine (flag_is _ _ _).mono ?_
    rintro e w2 ⟨rfl,hw2⟩
    obtain rfl:=hw2.symm
    clear hw2
    refine hK.out _ _ (by simp) (fun hHeld=>?_)
    clear hK K
    refine rtk 10 (h:=?_)
    refine rcl 12 (h:=fun K hK=>?_)
    go_simp
    refine hK.out _ _ (by simp) (fun hHeld=>?_)
    clear hK K
    refine rcl 13 (h:=fun K hK=>?_)
    go_simp
    refine hK.out _ _ (by simp) (fun hHeld=>?_)
    clear hK K
    refine wpAnyH_done (by kernel_rfl) ?_ _
    refine NoPanic.normal ?_
    go_wp2
    go_returns
    exact⟨by first | (simp[pok,pfl,hm];done) | simp[pok,pfl,hm,hq],by go_grown⟩
theorem mayCount_any (n:Int) (w:World):Calls Tryz.prog 87 #[.int .i64 n] w fun e w'=>e=.returned (.bool (mc n))/\w'=w:=by
 by_cases h0:1<=n
 ·by_cases h2:n<=16
  ·go_enter Tryz.func87,Tryz.ntmps87
   go_wp2
   go_ret
   exact⟨by unfold mc;rw[decide_eq_true h0,decide_eq_true h2];rfl,rfl⟩
  ·go_enter Tryz.func87,Tryz.ntmps87
   go_wp2
   go_ret
   exact⟨by unfold mc;rw[decide_eq_true h0,decide_eq_false (by omega)];rfl,rfl⟩
 ·go_enter Tryz.func87,Tryz.ntmps87
  go_wp2
  go_ret
  exact⟨by unfold mc;rw[decide_eq_false (by omega)];rfl,rfl⟩
def opv (q:Int) (nl ap:Bool) (h:Int):Int:=bits .or .i64 (bits .or .i64 (bits .or .i64 q (fv nl 4)) (fv ap 8)) (IntKind.i64.wrap (h * 16))
def opk (q h:Int):Bool:=mq q && decide (0<=h) && decide (h<=2)
theorem optionsOf_any (f:ByteArray) (q:Int) (nl ap:Bool) (h:Int) (w:World):Calls Tryz.prog 121 #[.agg #[.string f,.int .i64 q,.bool nl,.bool ap,.int .i64 h]] w fun e w'=>e=.returned (.tuple #[.int .i64 (opv q nl ap h),.bool (opk q h)])/\Below w.heap.size w w':=by
 cases hm:mq q
 ·go_enter Tryz.func121,Tryz.ntmps121
  go_wp2_with fail
  refine (mayQoS_is q _ hm _).mono ?_
  rintro e w1 ⟨rfl,hw1⟩
  obtain rfl:=hw1.symm
  clear hw1
  go_wp2_with fail
  refine wp_region_noPanic ?_
  refine wp_region_held_drew (S:=(fun w'=>w'.cell? ⟨w.heap.size,1,none⟩=some (.int .i64 q)/\w'.cell? ⟨w.heap.size,2,none⟩=some (.bool nl)/\w'.cell? ⟨w.heap.size,3,none⟩=some (.bool ap)/\w'.cell? ⟨w.heap.size,4,none⟩=some (.int .i64 h))) (by kernel_rfl) (by simp) (fun hHeld=>?_)
  refine rtk 0 (h:=?_)
  refine rtk 1 (h:=?_)
  refine rtk 2 (h:=?_)
  refine rtk 3 (h:=?_)
  refine rtk 6 (h:=?_)
  refine rtk 7 (h:=?_)
  refine rtk 10 (h:=?_)
  refine rtk 11 (h:=?_)
  refine rtk 12 (h:=?_)
  refine rtk 14 (h:=?_)
  refine rcl 4 (h:=fun K hK=>?_)
  go_simp
  refine (flag_is _ _ _).mono ?_
  rintro e w2 ⟨rfl,hw2⟩
  obtain rfl:=hw2.symm
  clear hw2
  refine hK.out _ _ (by simp) (fun hHeld=>?_)
  clear hK K
  refine rtk 5 (h:=?_)
  refine rcl 8 (h:=fun K hK=>?_)
  go_simp
  refine (flag_is _ _ _).mono ?_
  rintro e w2 ⟨rfl,hw2⟩
  obtain rfl:=hw2.symm
  clear hw2
  refine hK.out _ _ (by simp) (fun hHeld=>?_)
  clear hK K
  refine rtk 9 (h:=?_)
  refine rtk 13 (h:=?_)
  refine rcl 15 (h:=fun K hK=>?_)
  go_simp
  refine hK.out _ _ (by simp) (fun hHeld=>?_)
  clear hK K
  refine rcl 16 (h:=fun K hK=>?_)
  go_simp
  refine hK.out _ _ (by simp) (fun hHeld=>?_)
  clear hK K
  refine wpAnyH_done (by kernel_rfl) ?_ _
  refine NoPanic.normal ?_
  go_wp2
  go_returns
  exact⟨by simp[opv,opk,hm],by go_grown⟩
 ·by_cases h0:0<=h
  ·by_cases h2:h<=2
   ·go_enter Tryz.func121,Tryz.ntmps121
    go_wp2_with fail
    refine (mayQoS_is q _ hm _).mono ?_
    rintro e w1 ⟨rfl,hw1⟩
    obtain rfl:=hw1.symm
    clear hw1
    go_wp2_with fail
    refine wp_region_noPanic ?_
    refine wp_region_held_drew (S:=(fun w'=>w'.cell? ⟨w.heap.size,1,none⟩=some (.int .i64 q)/\w'.cell? ⟨w.heap.size,2,none⟩=some (.bool nl)/\w'.cell? ⟨w.heap.size,3,none⟩=some (.bool ap)/\w'.cell? ⟨w.heap.size,4,none⟩=some (.int .i64 h))) (by kernel_rfl) (by simp) (fun hHeld=>?_)
    refine rtk 0 (h:=?_)
    refine rtk 1 (h:=?_)
    refine rtk 2 (h:=?_)
    refine rtk 3 (h:=?_)
    refine rtk 6 (h:=?_)
    refine rtk 7 (h:=?_)
    refine rtk 10 (h:=?_)
    refine rtk 11 (h:=?_)
    refine rtk 12 (h:=?_)
    refine rtk 14 (h:=?_)
    refine rcl 4 (h:=fun K hK=>?_)
    go_simp
    refine (flag_is _ _ _).mono ?_
    rintro e w2 ⟨rfl,hw2⟩
    obtain rfl:=hw2.symm
    clear hw2
    refine hK.out _ _ (by simp) (fun hHeld=>?_)
    clear hK K
    refine rtk 5 (h:=?_)
    refine rcl 8 (h:=fun K hK=>?_)
    go_simp
    refine (flag_is _ _ _).mono ?_
    rintro e w2 ⟨rfl,hw2⟩
    obtain rfl:=hw2.symm
    clear hw2
    refine hK.out _ _ (by simp) (fun hHeld=>?_)
    clear hK K
    refine rtk 9 (h:=?_)
    refine rtk 13 (h:=?_)
    refine rcl 15 (h:=fun K hK=>?_)
    go_simp
    refine hK.out _ _ (by simp) (fun hHeld=>?_)
    clear hK K
    refine rcl 16 (h:=fun K hK=>?_)
    go_simp
    refine hK.out _ _ (by simp) (fun hHeld=>?_)
    clear hK K
    refine wpAnyH_done (by kernel_rfl) ?_ _
    refine NoPanic.normal ?_
    go_wp2
    go_returns
    exact⟨by simp[opv,opk,hm,h0,h2],by go_grown⟩
   ·go_enter Tryz.func121,Tryz.ntmps121
    go_wp2_with fail
    refine (mayQoS_is q _ hm _).mono ?_
    rintro e w1 ⟨rfl,hw1⟩
    obtain rfl:=hw1.symm
    clear hw1
    go_wp2_with fail
    refine wp_region_noPanic ?_
    refine wp_region_held_drew (S:=(fun w'=>w'.cell? ⟨w.heap.size,1,none⟩=some (.int .i64 q)/\w'.cell? ⟨w.heap.size,2,none⟩=some (.bool nl)/\w'.cell? ⟨w.heap.size,3,none⟩=some (.bool ap)/\w'.cell? ⟨w.heap.size,4,none⟩=some (.int .i64 h))) (by kernel_rfl) (by simp) (fun hHeld=>?_)
    refine rtk 0 (h:=?_)
    refine rtk 1 (h:=?_)
    refine rtk 2 (h:=?_)
    refine rtk 3 (h:=?_)
    refine rtk 6 (h:=?_)
    refine rtk 7 (h:=?_)
    refine rtk 10 (h:=?_)
    refine rtk 11 (h:=?_)
    refine rtk 12 (h:=?_)
    refine rtk 14 (h:=?_)
    refine rcl 4 (h:=fun K hK=>?_)
    go_simp
    refine (flag_is _ _ _).mono ?_
    rintro e w2 ⟨rfl,hw2⟩
    obtain rfl:=hw2.symm
    clear hw2
    refine hK.out _ _ (by simp) (fun hHeld=>?_)
    clear hK K
    refine rtk 5 (h:=?_)
    refine rcl 8 (h:=fun K hK=>?_)
    go_simp
    refine (flag_is _ _ _).mono ?_
    rintro e w2 ⟨rfl,hw2⟩
    obtain rfl:=hw2.symm
    clear hw2
    refine hK.out _ _ (by simp) (fun hHeld=>?_)
    clear hK K
    refine rtk 9 (h:=?_)
    refine rtk 13 (h:=?_)
    refine rcl 15 (h:=fun K hK=>?_)
    go_simp
    refine hK.out _ _ (by simp) (fun hHeld=>?_)
    clear hK K
    refine rcl 16 (h:=fun K hK=>?_)
    go_simp
    refine hK.out _ _ (by simp) (fun hHeld=>?_)
    clear hK K
    refine wpAnyH_done (by kernel_rfl) ?_ _
    refine NoPanic.normal ?_
    go_wp2
    go_returns
    exact⟨by simp[opv,opk,hm,h0],by go_grown⟩
  ·go_enter Tryz.func121,Tryz.ntmps121
   go_wp2_with fail
   refine (mayQoS_is q _ hm _).mono ?_
   rintro e w1 ⟨rfl,hw1⟩
   obtain rfl:=hw1.symm
   clear hw1
   go_wp2_with fail
   refine wp_region_noPanic ?_
   refine wp_region_held_drew (S:=(fun w'=>w'.cell? ⟨w.heap.size,1,none⟩=some (.int .i64 q)/\w'.cell? ⟨w.heap.size,2,none⟩=some (.bool nl)/\w'.cell? ⟨w.heap.size,3,none⟩=some (.bool ap)/\w'.cell? ⟨w.heap.size,4,none⟩=some (.int .i64 h))) (by kernel_rfl) (by simp) (fun hHeld=>?_)
   refine rtk 0 (h:=?_)
   refine rtk 1 (h:=?_)
   refine rtk 2 (h:=?_)
   refine rtk 3 (h:=?_)
   refine rtk 6 (h:=?_)
   refine rtk 7 (h:=?_)
   refine rtk 10 (h:=?_)
   refine rtk 11 (h:=?_)
   refine rtk 12 (h:=?_)
   refine rtk 14 (h:=?_)
   refine rcl 4 (h:=fun K hK=>?_)
   go_simp
   refine (flag_is _ _ _).mono ?_
   rintro e w2 ⟨rfl,hw2⟩
   obtain rfl:=hw2.symm
   clear hw2
   refine hK.out _ _ (by simp) (fun hHeld=>?_)
   clear hK K
   refine rtk 5 (h:=?_)
   refine rcl 8 (h:=fun K hK=>?_)
   go_simp
   refine (flag_is _ _ _).mono ?_
   rintro e w2 ⟨rfl,hw2⟩
   obtain rfl:=hw2.symm
   clear hw2
   refine hK.out _ _ (by simp) (fun hHeld=>?_)
   clear hK K
   refine rtk 9 (h:=?_)
   refine rtk 13 (h:=?_)
   refine rcl 15 (h:=fun K hK=>?_)
   go_simp
   refine hK.out _ _ (by simp) (fun hHeld=>?_)
   clear hK K
   refine rcl 16 (h:=fun K hK=>?_)
   go_simp
   refine hK.out _ _ (by simp) (fun hHeld=>?_)
   clear hK K
   refine wpAnyH_done (by kernel_rfl) ?_ _
   refine NoPanic.normal ?_
   go_wp2
   go_returns
   exact⟨by simp[opv,opk,hm];omega,by go_grown⟩
end Go.Proofs.YtpheelbbpiieiaaGreatDoor.K
