/- Proved here: helpers, one text behind the other. -/
import Derived.Test.YtpheelbbpiieiaaGreatDoorProg
import Derived.Laws.BitsAllLaws
import Derived.Deep.RegionHeld3
import Derived.Test.YtpheelbbpiieiaaGreatDoorZC6
import Derived.Test.YtpheelbbpiieiaaGreatDoorZC5
set_option maxHeartbeats 20000000
namespace Go.Proofs.YtpheelbbpiieiaaGreatDoor.K
open Go.RowKit
set_option maxRecDepth 100000
structure Sl where
 ao:Option Addr
 n:Nat
 cap:Nat
structure Pkv where
 kind:Int
 dup:Bool
 qos:Int
 retain:Bool
 topic:ByteArray
 id:Int
 payload:ByteArray
 props:Sl
 client:ByteArray
 clean:Bool
 keep:Int
 wills:Sl
 user:Sl
 pass:Sl
 code:Int
 session:Bool
 subs:Sl
 filters:Sl
 codes:Sl
abbrev Sl.val (s:Sl):Value:=.slice s.ao s.n s.cap
abbrev Pkv.val (p:Pkv):Value:=.agg #[.int .i64 p.kind,.bool p.dup,.int .i64 p.qos,.bool p.retain,.string p.topic,.int .i64 p.id,.string p.payload,p.props.val,.string p.client,.bool p.clean,.int .i64 p.keep,p.wills.val,p.user.val,p.pass.val,.int .i64 p.code,.bool p.session,p.subs.val,p.filters.val,p.codes.val]
def mq (n:Int):Bool:=decide (0<=n) && decide (n<=2)
theorem mayQoS_any (n:Int) (w:World):Calls Tryz.prog 76 #[.int .i64 n] w fun e w'=>e=.returned (.bool (mq n))/\w'=w:=by
 by_cases h0:0<=n
 ·by_cases h2:n<=2
  ·go_enter Tryz.func76,Tryz.ntmps76
   go_wp2
   go_ret
   exact⟨by unfold mq;rw[decide_eq_true h0,decide_eq_true h2];rfl,rfl⟩
  ·go_enter Tryz.func76,Tryz.ntmps76
   go_wp2
   go_ret
   exact⟨by unfold mq;rw[decide_eq_true h0,decide_eq_false (by omega)];rfl,rfl⟩
 ·go_enter Tryz.func76,Tryz.ntmps76
  go_wp2
  go_ret
  exact⟨by unfold mq;rw[decide_eq_false (by omega)];rfl,rfl⟩
def mc (n:Int):Bool:=decide (1<=n) && decide (n<=16)
theorem flag_any (b:Bool) (n:Int) (w:World):Calls Tryz.prog 77 #[.bool b,.int .i64 n] w fun e w'=>e=.returned (.int .i64 (if b then n else 0))/\w'=w:=by
 cases b
 ·go_enter Tryz.func77,Tryz.ntmps77
  go_wp2
  go_ret
  exact⟨rfl,rfl⟩
 ·go_enter Tryz.func77,Tryz.ntmps77
  go_wp2
  go_ret
  exact⟨rfl,rfl⟩
theorem flagsOf_fixed (p:Pkv) (w:World) (h:p.kind=6\/p.kind=8\/p.kind=10):Calls Tryz.prog 49 #[p.val] w fun e w'=>e=.returned (.tuple #[.int .i64 2,.bool true])/\Below w.heap.size w w':=by
 obtain⟨kind,dup,qos,retain,topic,id,payload,⟨a1,n1,c1⟩,client,clean,keep,⟨a2,n2,c2⟩,⟨a3,n3,c3⟩,⟨a4,n4,c4⟩,code,session,⟨a5,n5,c5⟩,⟨a6,n6,c6⟩,⟨a7,n7,c7⟩⟩:=p
 simp only at h
 rcases h with rfl | rfl | rfl
 ·go_enter Tryz.func49,Tryz.ntmps49
  go_wp2
  go_returns
  exact⟨rfl,by go_grown⟩
 ·go_enter Tryz.func49,Tryz.ntmps49
  go_wp2
  go_returns
  exact⟨rfl,by go_grown⟩
 ·go_enter Tryz.func49,Tryz.ntmps49
  go_wp2
  go_returns
  exact⟨rfl,by go_grown⟩
def fv (b:Bool) (n:Int):Int:=if b then n else 0
theorem flag_is (b:Bool) (n:Int) (w:World):Calls Tryz.prog 77 #[.bool b,.int .i64 n] w fun e w'=>e=.returned (.int .i64 (fv b n))/\w'=w:=flag_any b n w
theorem mayQoS_is (n:Int) (b:Bool) (h:mq n=b) (w:World):Calls Tryz.prog 76 #[.int .i64 n] w fun e w'=>e=.returned (.bool b)/\w'=w:=by
 subst h
 exact mayQoS_any n w
theorem kbelow_drew (w:World):Below w.heap.size w w.drew:=below_drewN (Below.refl _ _) 1
theorem flagsOf_other (p:Pkv) (w:World) (h3:p.kind≠3) (h6:p.kind≠6) (h8:p.kind≠8) (h10:p.kind≠10):Calls Tryz.prog 49 #[p.val] w fun e w'=>e=.returned (.tuple #[.int .i64 0,.bool (decide (1<=p.kind) && decide (p.kind<=15))])/\Below w.heap.size w w':=by
 obtain⟨kind,dup,qos,retain,topic,id,payload,⟨a1,n1,c1⟩,client,clean,keep,⟨a2,n2,c2⟩,⟨a3,n3,c3⟩,⟨a4,n4,c4⟩,code,session,⟨a5,n5,c5⟩,⟨a6,n6,c6⟩,⟨a7,n7,c7⟩⟩:=p
 simp only at h3 h6 h8 h10
 by_cases h1:1<=kind
 ·by_cases h15:kind<=15
  ·have b2:decide (kind<=15)=true:=by simpa using h15
   go_enter Tryz.func49,Tryz.ntmps49
   go_wp2_with fail
   refine wp_region_noPanic ?_
   refine wp_region_held_drew (S:=(fun w'=>w'.cell? ⟨w.heap.size,0,none⟩=some (.int .i64 kind))) (by kernel_rfl) (by simp) (fun hHeld=>?_)
   refine rtk 0 (h:=?_)
   refine rtk 1 (h:=?_)
   refine rtk 2 (h:=?_)
   refine rtk 3 (h:=?_)
   refine rtk 4 (h:=?_)
   refine rtk 5 (h:=?_)
   refine rtk 6 (h:=?_)
   refine rtk 7 (h:=?_)
   refine rcl 8 (h:=fun K hK=>?_)
   go_simp
   refine hK.out _ _ (by simp) (fun hHeld=>?_)
   clear hK K
   refine rcl 9 (h:=fun K hK=>?_)
   go_simp
   refine hK.out _ _ (by simp) (fun hHeld=>?_)
   clear hK K
   refine wpAnyH_done (by kernel_rfl) ?_ _
   refine NoPanic.normal ?_
   go_wp2
   go_returns
   exact⟨by simp[h1,h15],by go_grown⟩
  ·have b2:decide (kind<=15)=false:=by simpa using h15
   go_enter Tryz.func49,Tryz.ntmps49
   go_wp2_with fail
   refine wp_region_noPanic ?_
   refine wp_region_held_drew (S:=(fun w'=>w'.cell? ⟨w.heap.size,0,none⟩=some (.int .i64 kind))) (by kernel_rfl) (by simp) (fun hHeld=>?_)
   refine rtk 0 (h:=?_)
   refine rtk 1 (h:=?_)
   refine rtk 2 (h:=?_)
   refine rtk 3 (h:=?_)
   refine rtk 4 (h:=?_)
   refine rtk 5 (h:=?_)
   refine rtk 6 (h:=?_)
   refine rtk 7 (h:=?_)
   refine rcl 8 (h:=fun K hK=>?_)
   go_simp
   refine hK.out _ _ (by simp) (fun hHeld=>?_)
   clear hK K
   refine rcl 9 (h:=fun K hK=>?_)
   go_simp
   refine hK.out _ _ (by simp) (fun hHeld=>?_)
   clear hK K
   refine wpAnyH_done (by kernel_rfl) ?_ _
   refine NoPanic.normal ?_
   go_wp2
   go_returns
   exact⟨by simp[h1,h15],by go_grown⟩
 ·have b1:decide (1<=kind)=false:=by simpa using h1
  have b0:decide (kind ≥ 1)=false:=by simpa using h1
  go_enter Tryz.func49,Tryz.ntmps49
  go_wp2_with fail
  refine wp_region_noPanic ?_
  refine wp_region_held_drew (S:=(fun w'=>w'.cell? ⟨w.heap.size,0,none⟩=some (.int .i64 kind))) (by kernel_rfl) (by simp) (fun hHeld=>?_)
  refine rtk 0 (h:=?_)
  refine rtk 1 (h:=?_)
  refine rtk 2 (h:=?_)
  refine rtk 3 (h:=?_)
  refine rsk 4 (h:=?_)
  refine rsk 5 (h:=?_)
  refine rsk 6 (h:=?_)
  refine rtk 7 (h:=?_)
  refine rcl 8 (h:=fun K hK=>?_)
  go_simp
  refine hK.out _ _ (by simp) (fun hHeld=>?_)
  clear hK K
  refine rcl 9 (h:=fun K hK=>?_)
  go_simp
  refine hK.out _ _ (by simp) (fun hHeld=>?_)
  clear hK K
  refine wpAnyH_done (by kernel_rfl) ?_ _
  refine NoPanic.normal ?_
  go_wp2
  go_returns
  exact⟨by simp[b1],by go_grown⟩
def pfl (dup:Bool) (qos:Int) (retain:Bool):Int:=bits .or .i64 (bits .or .i64 (fv dup 8) (IntKind.i64.wrap (qos * 2))) (fv retain 1)
def pok (dup:Bool) (qos:Int):Bool:=mq qos && (decide (0 < qos) || !dup)
theorem flagsOf_pub (p:Pkv) (w:World) (h3:p.kind=3):Calls Tryz.prog 49 #[p.val] w fun e w'=>e=.returned (.tuple #[.int .i64 (pfl p.dup p.qos p.retain),.bool (pok p.dup p.qos)])/\Below w.heap.size w w':=by
 obtain⟨kind,dup,qos,retain,topic,id,payload,⟨a1,n1,c1⟩,client,clean,keep,⟨a2,n2,c2⟩,⟨a3,n3,c3⟩,⟨a4,n4,c4⟩,code,session,⟨a5,n5,c5⟩,⟨a6,n6,c6⟩,⟨a7,n7,c7⟩⟩:=p
 simp only at h3
 subst h3
 by_cases hq:0 < qos
 ·cases hm:mq qos
  ·cases dup
   ·go_enter Tryz.func49,Tryz.ntmps49
    go_wp2_with fail
    refine (mayQoS_is qos _ hm _).mono ?_
    rintro e w1 ⟨rfl,hw1⟩
    obtain rfl:=hw1.symm
    clear hw1
    go_wp2_with fail
    refine wp_region_noPanic ?_
    refine wp_region_held_drew (S:=(fun w'=>w'.cell? ⟨w.heap.size,1,none⟩=some (.bool false)/\w'.cell? ⟨w.heap.size,2,none⟩=some (.int .i64 qos)/\w'.cell? ⟨w.heap.size,3,none⟩=some (.bool retain))) (by kernel_rfl) (by simp) (fun hHeld=>?_)
    refine rtk 0 (h:=?_)
    refine rtk 1 (h:=?_)
    refine rtk 3 (h:=?_)
    refine rtk 4 (h:=?_)
    refine rtk 5 (h:=?_)
    refine rtk 7 (h:=?_)
    refine rtk 8 (h:=?_)
    refine rtk 11 (h:=?_)
    refine rcl 2 (h:=fun K hK=>?_)
    go_simp
    refine (flag_is _ _ _).mono ?_
    rintro e w2 ⟨rfl,hw2⟩
    obtain rfl:=hw2.symm
    clear hw2
    refine hK.out _ _ (by simp) (fun hHeld=>?_)
    clear hK K
    refine rtk 6 (h:=?_)
    refine rcl 9 (h:=fun K hK=>?_)
    go_simp
    refine (flag_is _ _ _).mono ?_
    rintro e w2 ⟨rfl,hw2⟩
    obtain rfl:=hw2.symm
    clear hw2
    refine hK.out _ _ (by simp) (fun hHeld=>?_)
    clear hK K
    refine rtk 10 (h:=?_)
    refine rcl 12 (h:=fun K hK=>?_)
    go_simp
    refine hK.out _ _ (by simp) (fun hHeld=>?_)
    clear hK K
    refine rcl 13 (h:=fun K hK=>?_)
    go_simp
    refine hK.out _ _ (by simp) (fun hHeld=>?_)
    clear hK K
    refine wpAnyH_done (by kernel_rfl) ?_ _
    refine NoPanic.normal ?_
    go_wp2
    go_returns
    exact⟨by first | (simp[pok,pfl,hm];done) | simp[pok,pfl,hm,hq],by go_grown⟩
   ·go_enter Tryz.func49,Tryz.ntmps49
    go_wp2_with fail
    refine (mayQoS_is qos _ hm _).mono ?_
    rintro e w1 ⟨rfl,hw1⟩
    obtain rfl:=hw1.symm
    clear hw1
    go_wp2_with fail
    refine wp_region_noPanic ?_
    refine wp_region_held_drew (S:=(fun w'=>w'.cell? ⟨w.heap.size,1,none⟩=some (.bool true)/\w'.cell? ⟨w.heap.size,2,none⟩=some (.int .i64 qos)/\w'.cell? ⟨w.heap.size,3,none⟩=some (.bool retain))) (by kernel_rfl) (by simp) (fun hHeld=>?_)
    refine rtk 0 (h:=?_)
    refine rtk 1 (h:=?_)
    refine rtk 3 (h:=?_)
    refine rtk 4 (h:=?_)
    refine rtk 5 (h:=?_)
    refine rtk 7 (h:=?_)
    refine rtk 8 (h:=?_)
    refine rtk 11 (h:=?_)
    refine rcl 2 (h:=fun K hK=>?_)
    go_simp
    refine (flag_is _ _ _).mono ?_
    rintro e w2 ⟨rfl,hw2⟩
    obtain rfl:=hw2.symm
    clear hw2
    refine hK.out _ _ (by simp) (fun hHeld=>?_)
    clear hK K
    refine rtk 6 (h:=?_)
    refine rcl 9 (h:=fun K hK=>?_)
    go_simp
    refine (flag_is _ _ _).mono ?_
    rintro e w2 ⟨rfl,hw2⟩
    obtain rfl:=hw2.symm
    clear hw2
    refine hK.out _ _ (by simp) (fun hHeld=>?_)
    clear hK K
    refine rtk 10 (h:=?_)
    refine rcl 12 (h:=fun K hK=>?_)
    go_simp
    refine hK.out _ _ (by simp) (fun hHeld=>?_)
    clear hK K
    refine rcl 13 (h:=fun K hK=>?_)
    go_simp
    refine hK.out _ _ (by simp) (fun hHeld=>?_)
    clear hK K
    refine wpAnyH_done (by kernel_rfl) ?_ _
    refine NoPanic.normal ?_
    go_wp2
    go_returns
    exact⟨by first | (simp[pok,pfl,hm];done) | simp[pok,pfl,hm,hq],by go_grown⟩
  ·cases dup
   ·go_enter Tryz.func49,Tryz.ntmps49
    go_wp2_with fail
    refine (mayQoS_is qos _ hm _).mono ?_
    rintro e w1 ⟨rfl,hw1⟩
    obtain rfl:=hw1.symm
    clear hw1
    go_wp2_with fail
    refine wp_region_noPanic ?_
    refine wp_region_held_drew (S:=(fun w'=>w'.cell? ⟨w.heap.size,1,none⟩=some (.bool false)/\w'.cell? ⟨w.heap.size,2,none⟩=some (.int .i64 qos)/\w'.cell? ⟨w.heap.size,3,none⟩=some (.bool retain))) (by kernel_rfl) (by simp) (fun hHeld=>?_)
    refine rtk 0 (h:=?_)
    refine rtk 1 (h:=?_)
    refine rtk 3 (h:=?_)
    refine rtk 4 (h:=?_)
    refine rtk 5 (h:=?_)
    refine rtk 7 (h:=?_)
    refine rtk 8 (h:=?_)
    refine rtk 11 (h:=?_)
    refine rcl 2 (h:=fun K hK=>?_)
    go_simp
    refine (flag_is _ _ _).mono ?_
    rintro e w2 ⟨rfl,hw2⟩
    obtain rfl:=hw2.symm
    clear hw2
    refine hK.out _ _ (by simp) (fun hHeld=>?_)
    clear hK K
    refine rtk 6 (h:=?_)
    refine rcl 9 (h:=fun K hK=>?_)
    go_simp
    refine (flag_is _ _ _).mono ?_
    rintro e w2 ⟨rfl,hw2⟩
    obtain rfl:=hw2.symm
    clear hw2
    refine hK.out _ _ (by simp) (fun hHeld=>?_)
    clear hK K
    refine rtk 10 (h:=?_)
    refine rcl 12 (h:=fun K hK=>?_)
    go_simp
    refine hK.out _ _ (by simp) (fun hHeld=>?_)
    clear hK K
    refine rcl 13 (h:=fun K hK=>?_)
    go_simp
    refine hK.out _ _ (by simp) (fun hHeld=>?_)
    clear hK K
    refine wpAnyH_done (by kernel_rfl) ?_ _
    refine NoPanic.normal ?_
    go_wp2
    go_returns
    exact⟨by first | (simp[pok,pfl,hm];done) | simp[pok,pfl,hm,hq],by go_grown⟩
   ·go_enter Tryz.func49,Tryz.ntmps49
    go_wp2_with fail
    refine (mayQoS_is qos _ hm _).mono ?_
    rintro e w1 ⟨rfl,hw1⟩
    obtain rfl:=hw1.symm
    clear hw1
    go_wp2_with fail
    refine wp_region_noPanic ?_
    refine wp_region_held_drew (S:=(fun w'=>w'.cell? ⟨w.heap.size,1,none⟩=some (.bool true)/\w'.cell? ⟨w.heap.size,2,none⟩=some (.int .i64 qos)/\w'.cell? ⟨w.heap.size,3,none⟩=some (.bool retain))) (by kernel_rfl) (by simp) (fun hHeld=>?_)
    refine rtk 0 (h:=?_)
    refine rtk 1 (h:=?_)
    refine rtk 3 (h:=?_)
    refine rtk 4 (h:=?_)
    refine rtk 5 (h:=?_)
    refine rtk 7 (h:=?_)
    refine rtk 8 (h:=?_)
    refine rtk 11 (h:=?_)
    refine rcl 2 (h:=fun K hK=>?_)
    go_simp
    refine (flag_is _ _ _).mono ?_
    rintro e w2 ⟨rfl,hw2⟩
    obtain rfl:=hw2.symm
    clear hw2
    refine hK.out _ _ (by simp) (fun hHeld=>?_)
    clear hK K
    refine rtk 6 (h:=?_)
    refine rcl 9 (h:=fun K hK=>?_)
    go_simp
    refine (flag_is _ _ _).mono ?_
    rintro e w2 ⟨rfl,hw2⟩
    obtain rfl:=hw2.symm
    clear hw2
    refine hK.out _ _ (by simp) (fun hHeld=>?_)
    clear hK K
    refine rtk 10 (h:=?_)
    refine rcl 12 (h:=fun K hK=>?_)
    go_simp
    refine hK.out _ _ (by simp) (fun hHeld=>?_)
    clear hK K
    refine rcl 13 (h:=fun K hK=>?_)
    go_simp
    refine hK.out _ _ (by simp) (fun hHeld=>?_)
    clear hK K
    refine wpAnyH_done (by kernel_rfl) ?_ _
    refine NoPanic.normal ?_
    go_wp2
    go_returns
    exact⟨by first | (simp[pok,pfl,hm];done) | simp[pok,pfl,hm,hq],by go_grown⟩
 ·cases hm:mq qos
  ·cases dup
   ·go_enter Tryz.func49,Tryz.ntmps49
    go_wp2_with fail
    refine (mayQoS_is qos _ hm _).mono ?_
    rintro e w1 ⟨rfl,hw1⟩
    obtain rfl:=hw1.symm
    clear hw1
    go_wp2_with fail
    refine wp_region_noPanic ?_
    refine wp_region_held_drew (S:=(fun w'=>w'.cell? ⟨w.heap.size,1,none⟩=some (.bool false)/\w'.cell? ⟨w.heap.size,2,none⟩=some (.int .i64 qos)/\w'.cell? ⟨w.heap.size,3,none⟩=some (.bool retain))) (by kernel_rfl) (by simp) (fun hHeld=>?_)
    refine rtk 0 (h:=?_)
    refine rtk 1 (h:=?_)
    refine rtk 3 (h:=?_)
    refine rtk 4 (h:=?_)
    refine rtk 5 (h:=?_)
    refine rtk 7 (h:=?_)
    refine rtk 8 (h:=?_)
    refine rtk 11 (h:=?_)
    refine rcl 2 (h:=fun K hK=>?_)
    go_simp
    refine (flag_is _ _ _).mono ?_
    rintro e w2 ⟨rfl,hw2⟩
    obtain rfl:=hw2.symm
    clear hw2
    refine hK.out _ _ (by simp) (fun hHeld=>?_)
    clear hK K
    refine rtk 6 (h:=?_)
    refine rcl 9 (h:=fun K hK=>?_)
    go_simp
    refine (flag_is _ _ _).mono ?_
    rintro e w2 ⟨rfl,hw2⟩
    obtain rfl:=hw2.symm
    clear hw2
    refine hK.out _ _ (by simp) (fun hHeld=>?_)
    clear hK K
    refine rtk 10 (h:=?_)
    refine rcl 12 (h:=fun K hK=>?_)
    go_simp
    refine hK.out _ _ (by simp) (fun hHeld=>?_)
    clear hK K
    refine rcl 13 (h:=fun K hK=>?_)
    go_simp
    refine hK.out _ _ (by simp) (fun hHeld=>?_)
    clear hK K
    refine wpAnyH_done (by kernel_rfl) ?_ _
    refine NoPanic.normal ?_
    go_wp2
    go_returns
    exact⟨by first | (simp[pok,pfl,hm];done) | simp[pok,pfl,hm,hq],by go_grown⟩
   ·go_enter Tryz.func49,Tryz.ntmps49
    go_wp2_with fail
    refine (mayQoS_is qos _ hm _).mono ?_
    rintro e w1 ⟨rfl,hw1⟩
    obtain rfl:=hw1.symm
    clear hw1
    go_wp2_with fail
    refine wp_region_noPanic ?_
    refine wp_region_held_drew (S:=(fun w'=>w'.cell? ⟨w.heap.size,1,none⟩=some (.bool true)/\w'.cell? ⟨w.heap.size,2,none⟩=some (.int .i64 qos)/\w'.cell? ⟨w.heap.size,3,none⟩=some (.bool retain))) (by kernel_rfl) (by simp) (fun hHeld=>?_)
    refine rtk 0 (h:=?_)
    refine rtk 1 (h:=?_)
    refine rtk 3 (h:=?_)
    refine rtk 4 (h:=?_)
    refine rtk 5 (h:=?_)
    refine rtk 7 (h:=?_)
    refine rtk 8 (h:=?_)
    refine rtk 11 (h:=?_)
    refine rcl 2 (h:=fun K hK=>?_)
    go_simp
    refine (flag_is _ _ _).mono ?_
    rintro e w2 ⟨rfl,hw2⟩
    obtain rfl:=hw2.symm
    clear hw2
    refine hK.out _ _ (by simp) (fun hHeld=>?_)
    clear hK K
    refine rtk 6 (h:=?_)
    refine rcl 9 (h:=fun K hK=>?_)
    go_simp
    refine (flag_is _ _ _).mono ?_
    rintro e w2 ⟨rfl,hw2⟩
    obtain rfl:=hw2.symm
    clear hw2
    refine hK.out _ _ (by simp) (fun hHeld=>?_)
    clear hK K
    refine rtk 10 (h:=?_)
    refine rcl 12 (h:=fun K hK=>?_)
    go_simp
    refine hK.out _ _ (by simp) (fun hHeld=>?_)
    clear hK K
    refine rcl 13 (h:=fun K hK=>?_)
    go_simp
    refine hK.out _ _ (by simp) (fun hHeld=>?_)
    clear hK K
    refine wpAnyH_done (by kernel_rfl) ?_ _
    refine NoPanic.normal ?_
    go_wp2
    go_returns
    exact⟨by first | (simp[pok,pfl,hm];done) | simp[pok,pfl,hm,hq],by go_grown⟩
  ·cases dup
   ·go_enter Tryz.func49,Tryz.ntmps49
    go_wp2_with fail
    refine (mayQoS_is qos _ hm _).mono ?_
    rintro e w1 ⟨rfl,hw1⟩
    obtain rfl:=hw1.symm
    clear hw1
    go_wp2_with fail
    refine wp_region_noPanic ?_
    refine wp_region_held_drew (S:=(fun w'=>w'.cell? ⟨w.heap.size,1,none⟩=some (.bool false)/\w'.cell? ⟨w.heap.size,2,none⟩=some (.int .i64 qos)/\w'.cell? ⟨w.heap.size,3,none⟩=some (.bool retain))) (by kernel_rfl) (by simp) (fun hHeld=>?_)
    refine rtk 0 (h:=?_)
    refine rtk 1 (h:=?_)
    refine rtk 3 (h:=?_)
    refine rtk 4 (h:=?_)
    refine rtk 5 (h:=?_)
    refine rtk 7 (h:=?_)
    refine rtk 8 (h:=?_)
    refine rtk 11 (h:=?_)
    refine rcl 2 (h:=fun K hK=>?_)
    go_simp
    refine (flag_is _ _ _).mono ?_
    rintro e w2 ⟨rfl,hw2⟩
    obtain rfl:=hw2.symm
    clear hw2
    refine hK.out _ _ (by simp) (fun hHeld=>?_)
    clear hK K
    refine rtk 6 (h:=?_)
    refine rcl 9 (h:=fun K hK=>?_)
    go_simp
    refine (flag_is _ _ _).mono ?_
    rintro e w2 ⟨rfl,hw2⟩
    obtain rfl:=hw2.symm
    clear hw2
    refine hK.out _ _ (by simp) (fun hHeld=>?_)
    clear hK K
    refine rtk 10 (h:=?_)
    refine rcl 12 (h:=fun K hK=>?_)
    go_simp
    refine hK.out _ _ (by simp) (fun hHeld=>?_)
    clear hK K
    refine rcl 13 (h:=fun K hK=>?_)
    go_simp
    refine hK.out _ _ (by simp) (fun hHeld=>?_)
    clear hK K
    refine wpAnyH_done (by kernel_rfl) ?_ _
    refine NoPanic.normal ?_
    go_wp2
    go_returns
    exact⟨by first | (simp[pok,pfl,hm];done) | simp[pok,pfl,hm,hq],by go_grown⟩
   ·go_enter Tryz.func49,Tryz.ntmps49
    go_wp2_with fail
    refine (mayQoS_is qos _ hm _).mono ?_
    rintro e w1 ⟨rfl,hw1⟩
    obtain rfl:=hw1.symm
    clear hw1
    go_wp2_with fail
    refine wp_region_noPanic ?_
    refine wp_region_held_drew (S:=(fun w'=>w'.cell? ⟨w.heap.size,1,none⟩=some (.bool true)/\w'.cell? ⟨w.heap.size,2,none⟩=some (.int .i64 qos)/\w'.cell? ⟨w.heap.size,3,none⟩=some (.bool retain))) (by kernel_rfl) (by simp) (fun hHeld=>?_)
    refine rtk 0 (h:=?_)
    refine rtk 1 (h:=?_)
    refine rtk 3 (h:=?_)
    refine rtk 4 (h:=?_)
    refine rtk 5 (h:=?_)
    refine rtk 7 (h:=?_)
    refine rtk 8 (h:=?_)
    refine rtk 11 (h:=?_)
    refine rcl 2 (h:=fun K hK=>?_)
    go_simp
    refine (flag_is _ _ _).mono ?_
    rintro e w2 ⟨rfl,hw2⟩
    obtain rfl:=hw2.symm
    clear hw2
    refine hK.out _ _ (by simp) (fun hHeld=>?_)
    clear hK K
    refine rtk 6 (h:=?_)
    refine rcl 9 (h:=fun K hK=>?_)
    go_simp
    refine (flag_is _ _ _).mono ?_
    rintro e w2 ⟨rfl,hw2⟩
    obtain rfl:=hw2.symm
    clear hw2
    refine hK.out _ _ (by simp) (fun hHeld=>?_)
    clear hK K
    refine rtk 10 (h:=?_)
    refine rcl 12 (h:=fun K hK=>?_)
    go_simp
    refine hK.out _ _ (by simp) (fun hHeld=>?_)
    clear hK K
    refine rcl 13 (h:=fun K hK=>?_)
    go_simp
    refine hK.out _ _ (by simp) (fun hHeld=>?_)
    clear hK K
    refine wpAnyH_done (by kernel_rfl) ?_ _
    refine NoPanic.normal ?_
    go_wp2
    go_returns
    exact⟨by first | (simp[pok,pfl,hm];done) | simp[pok,pfl,hm,hq],by go_grown⟩
theorem mayCount_any (n:Int) (w:World):Calls Tryz.prog 87 #[.int .i64 n] w fun e w'=>e=.returned (.bool (mc n))/\w'=w:=by
 by_cases h0:1<=n
 ·by_cases h2:n<=16
  ·go_enter Tryz.func87,Tryz.ntmps87
   go_wp2
   go_ret
   exact⟨by unfold mc;rw[decide_eq_true h0,decide_eq_true h2];rfl,rfl⟩
  ·go_enter Tryz.func87,Tryz.ntmps87
   go_wp2
   go_ret
   exact⟨by unfold mc;rw[decide_eq_true h0,decide_eq_false (by omega)];rfl,rfl⟩
 ·go_enter Tryz.func87,Tryz.ntmps87
  go_wp2
  go_ret
  exact⟨by unfold mc;rw[decide_eq_false (by omega)];rfl,rfl⟩
def opv (q:Int) (nl ap:Bool) (h:Int):Int:=bits .or .i64 (bits .or .i64 (bits .or .i64 q (fv nl 4)) (fv ap 8)) (IntKind.i64.wrap (h * 16))
def opk (q h:Int):Bool:=mq q && decide (0<=h) && decide (h<=2)
theorem optionsOf_any (f:ByteArray) (q:Int) (nl ap:Bool) (h:Int) (w:World):Calls Tryz.prog 121 #[.agg #[.string f,.int .i64 q,.bool nl,.bool ap,.int .i64 h]] w fun e w'=>e=.returned (.tuple #[.int .i64 (opv q nl ap h),.bool (opk q h)])/\Below w.heap.size w w':=by
 cases hm:mq q
 ·go_enter Tryz.func121,Tryz.ntmps121
  go_wp2_with fail
  refine (mayQoS_is q _ hm _).mono ?_
  rintro e w1 ⟨rfl,hw1⟩
  obtain rfl:=hw1.symm
  clear hw1
  go_wp2_with fail
  refine wp_region_noPanic ?_
  refine wp_region_held_drew (S:=(fun w'=>w'.cell? ⟨w.heap.size,1,none⟩=some (.int .i64 q)/\w'.cell? ⟨w.heap.size,2,none⟩=some (.bool nl)/\w'.cell? ⟨w.heap.size,3,none⟩=some (.bool ap)/\w'.cell? ⟨w.heap.size,4,none⟩=some (.int .i64 h))) (by kernel_rfl) (by simp) (fun hHeld=>?_)
  refine rtk 0 (h:=?_)
  refine rtk 1 (h:=?_)
  refine rtk 2 (h:=?_)
  refine rtk 3 (h:=?_)
  refine rtk 6 (h:=?_)
  refine rtk 7 (h:=?_)
  refine rtk 10 (h:=?_)
  refine rtk 11 (h:=?_)
  refine rtk 12 (h:=?_)
  refine rtk 14 (h:=?_)
  refine rcl 4 (h:=fun K hK=>?_)
  go_simp
  refine (flag_is _ _ _).mono ?_
  rintro e w2 ⟨rfl,hw2⟩
  obtain rfl:=hw2.symm
  clear hw2
  refine hK.out _ _ (by simp) (fun hHeld=>?_)
  clear hK K
  refine rtk 5 (h:=?_)
  refine rcl 8 (h:=fun K hK=>?_)
  go_simp
  refine (flag_is _ _ _).mono ?_
  rintro e w2 ⟨rfl,hw2⟩
  obtain rfl:=hw2.symm
  clear hw2
  refine hK.out _ _ (by simp) (fun hHeld=>?_)
  clear hK K
  refine rtk 9 (h:=?_)
  refine rtk 13 (h:=?_)
  refine rcl 15 (h:=fun K hK=>?_)
  go_simp
  refine hK.out _ _ (by simp) (fun hHeld=>?_)
  clear hK K
  refine rcl 16 (h:=fun K hK=>?_)
  go_simp
  refine hK.out _ _ (by simp) (fun hHeld=>?_)
  clear hK K
  refine wpAnyH_done (by kernel_rfl) ?_ _
  refine NoPanic.normal ?_
  go_wp2
  go_returns
  exact⟨by simp[opv,opk,hm],by go_grown⟩
 ·by_cases h0:0<=h
  ·by_cases h2:h<=2
   ·go_enter Tryz.func121,Tryz.ntmps121
    go_wp2_with fail
    refine (mayQoS_is q _ hm _).mono ?_
    rintro e w1 ⟨rfl,hw1⟩
    obtain rfl:=hw1.symm
    clear hw1
    go_wp2_with fail
    refine wp_region_noPanic ?_
    refine wp_region_held_drew (S:=(fun w'=>w'.cell? ⟨w.heap.size,1,none⟩=some (.int .i64 q)/\w'.cell? ⟨w.heap.size,2,none⟩=some (.bool nl)/\w'.cell? ⟨w.heap.size,3,none⟩=some (.bool ap)/\w'.cell? ⟨w.heap.size,4,none⟩=some (.int .i64 h))) (by kernel_rfl) (by simp) (fun hHeld=>?_)
    refine rtk 0 (h:=?_)
    refine rtk 1 (h:=?_)
    refine rtk 2 (h:=?_)
    refine rtk 3 (h:=?_)
    refine rtk 6 (h:=?_)
    refine rtk 7 (h:=?_)
    refine rtk 10 (h:=?_)
    refine rtk 11 (h:=?_)
    refine rtk 12 (h:=?_)
    refine rtk 14 (h:=?_)
    refine rcl 4 (h:=fun K hK=>?_)
    go_simp
    refine (flag_is _ _ _).mono ?_
    rintro e w2 ⟨rfl,hw2⟩
    obtain rfl:=hw2.symm
    clear hw2
    refine hK.out _ _ (by simp) (fun hHeld=>?_)
    clear hK K
    refine rtk 5 (h:=?_)
    refine rcl 8 (h:=fun K hK=>?_)
    go_simp
    refine (flag_is _ _ _).mono ?_
    rintro e w2 ⟨rfl,hw2⟩
    obtain rfl:=hw2.symm
    clear hw2
    refine hK.out _ _ (by simp) (fun hHeld=>?_)
    clear hK K
    refine rtk 9 (h:=?_)
    refine rtk 13 (h:=?_)
    refine rcl 15 (h:=fun K hK=>?_)
    go_simp
    refine hK.out _ _ (by simp) (fun hHeld=>?_)
    clear hK K
    refine rcl 16 (h:=fun K hK=>?_)
    go_simp
    refine hK.out _ _ (by simp) (fun hHeld=>?_)
    clear hK K
    refine wpAnyH_done (by kernel_rfl) ?_ _
    refine NoPanic.normal ?_
    go_wp2
    go_returns
    exact⟨by simp[opv,opk,hm,h0,h2],by go_grown⟩
   ·go_enter Tryz.func121,Tryz.ntmps121
    go_wp2_with fail
    refine (mayQoS_is q _ hm _).mono ?_
    rintro e w1 ⟨rfl,hw1⟩
    obtain rfl:=hw1.symm
    clear hw1
    go_wp2_with fail
    refine wp_region_noPanic ?_
    refine wp_region_held_drew (S:=(fun w'=>w'.cell? ⟨w.heap.size,1,none⟩=some (.int .i64 q)/\w'.cell? ⟨w.heap.size,2,none⟩=some (.bool nl)/\w'.cell? ⟨w.heap.size,3,none⟩=some (.bool ap)/\w'.cell? ⟨w.heap.size,4,none⟩=some (.int .i64 h))) (by kernel_rfl) (by simp) (fun hHeld=>?_)
    refine rtk 0 (h:=?_)
    refine rtk 1 (h:=?_)
    refine rtk 2 (h:=?_)
    refine rtk 3 (h:=?_)
    refine rtk 6 (h:=?_)
    refine rtk 7 (h:=?_)
    refine rtk 10 (h:=?_)
    refine rtk 11 (h:=?_)
    refine rtk 12 (h:=?_)
    refine rtk 14 (h:=?_)
    refine rcl 4 (h:=fun K hK=>?_)
    go_simp
    refine (flag_is _ _ _).mono ?_
    rintro e w2 ⟨rfl,hw2⟩
    obtain rfl:=hw2.symm
    clear hw2
    refine hK.out _ _ (by simp) (fun hHeld=>?_)
    clear hK K
    refine rtk 5 (h:=?_)
    refine rcl 8 (h:=fun K hK=>?_)
    go_simp
    refine (flag_is _ _ _).mono ?_
    rintro e w2 ⟨rfl,hw2⟩
    obtain rfl:=hw2.symm
    clear hw2
    refine hK.out _ _ (by simp) (fun hHeld=>?_)
    clear hK K
    refine rtk 9 (h:=?_)
    refine rtk 13 (h:=?_)
    refine rcl 15 (h:=fun K hK=>?_)
    go_simp
    refine hK.out _ _ (by simp) (fun hHeld=>?_)
    clear hK K
    refine rcl 16 (h:=fun K hK=>?_)
    go_simp
    refine hK.out _ _ (by simp) (fun hHeld=>?_)
    clear hK K
    refine wpAnyH_done (by kernel_rfl) ?_ _
    refine NoPanic.normal ?_
    go_wp2
    go_returns
    exact⟨by simp[opv,opk,hm,h0],by go_grown⟩
  ·go_enter Tryz.func121,Tryz.ntmps121
   go_wp2_with fail
   refine (mayQoS_is q _ hm _).mono ?_
   rintro e w1 ⟨rfl,hw1⟩
   obtain rfl:=hw1.symm
   clear hw1
   go_wp2_with fail
   refine wp_region_noPanic ?_
   refine wp_region_held_drew (S:=(fun w'=>w'.cell? ⟨w.heap.size,1,none⟩=some (.int .i64 q)/\w'.cell? ⟨w.heap.size,2,none⟩=some (.bool nl)/\w'.cell? ⟨w.heap.size,3,none⟩=some (.bool ap)/\w'.cell? ⟨w.heap.size,4,none⟩=some (.int .i64 h))) (by kernel_rfl) (by simp) (fun hHeld=>?_)
   refine rtk 0 (h:=?_)
   refine rtk 1 (h:=?_)
   refine rtk 2 (h:=?_)
   refine rtk 3 (h:=?_)
   refine rtk 6 (h:=?_)
   refine rtk 7 (h:=?_)
   refine rtk 10 (h:=?_)
   refine rtk 11 (h:=?_)
   refine rtk 12 (h:=?_)
   refine rtk 14 (h:=?_)
   refine rcl 4 (h:=fun K hK=>?_)
   go_simp
   refine (flag_is _ _ _).mono ?_
   rintro e w2 ⟨rfl,hw2⟩
   obtain rfl:=hw2.symm
   clear hw2
   refine hK.out _ _ (by simp) (fun hHeld=>?_)
   clear hK K
   refine rtk 5 (h:=?_)
   refine rcl 8 (h:=fun K hK=>?_)
   go_simp
   refine (flag_is _ _ _).mono ?_
   rintro e w2 ⟨rfl,hw2⟩
   obtain rfl:=hw2.symm
   clear hw2
   refine hK.out _ _ (by simp) (fun hHeld=>?_)
   clear hK K
   refine rtk 9 (h:=?_)
   refine rtk 13 (h:=?_)
   refine rcl 15 (h:=fun K hK=>?_)
   go_simp
   refine hK.out _ _ (by simp) (fun hHeld=>?_)
   clear hK K
   refine rcl 16 (h:=fun K hK=>?_)
   go_simp
   refine hK.out _ _ (by simp) (fun hHeld=>?_)
   clear hK K
   refine wpAnyH_done (by kernel_rfl) ?_ _
   refine NoPanic.normal ?_
   go_wp2
   go_returns
   exact⟨by simp[opv,opk,hm];omega,by go_grown⟩
def ErO (w:World) (X:Nat->Prop):Nat->Value->Int->Prop
 | 0,v,n=>v=.iface 63 (.int .i64 n)
 | d+1,v,n=>∃ b u,v=.iface 118 (.pointer (some ⟨b,0,none⟩))/\¬ X b/\w.cell? ⟨b,1,none⟩=some u/\ErO w X d u n
theorem ErO.er {w:World} {X:Nat->Prop}:∀ {d:Nat} {v:Value} {n:Int},ErO w X d v n->Er w d v n
 | 0,_,_,h=>h
 | _+1,_,_,⟨b,u,h1,_,h2,h3⟩=>⟨b,u,h1,h2,h3.er⟩
theorem ErO.bx {w w':World} {R:Nat} {X:Nat->Prop} {may:Nat->Prop} (hx:BX R may w w') (hX:X R):∀ {d:Nat} {v:Value} {n:Int},ErO w X d v n->ErO w' X d v n
 | 0,_,_,h=>h
 | _+1,_,_,⟨b,u,h1,hR,h2,h3⟩=>⟨b,u,h1,hR,hx.far h2 (fun e=>by simp only at e;subst e;exact hR hX),ErO.bx hx hX h3⟩
theorem ErO.of {w:World} {R:Nat} {c:Bool} (hR:w.cell? ⟨R,1,none⟩=some (.bool c)):∀ {d:Nat} {v:Value} {n:Int},Er w d v n->ErO w (fun k=>k=R) d v n
 | 0,_,_,h=>h
 | 1,_,_,⟨b,u,h1,h2,h3⟩=>⟨b,u,h1,(fun e=>by subst e;cases h3;rw[hR]at h2;cases h2),h2,h3⟩
 | _+2,_,_,⟨b,u,h1,h2,h3⟩=>⟨b,u,h1,(fun e=>by subst e;obtain⟨_,_,rfl,_⟩:=h3;rw[hR]at h2;cases h2),h2,ErO.of hR h3⟩
theorem ErO.weak {w:World} {X Y:Nat->Prop} (hXY:∀ k,Y k->X k):∀ {d:Nat} {v:Value} {n:Int},ErO w X d v n->ErO w Y d v n
 | 0,_,_,h=>h
 | _+1,_,_,⟨b,u,h1,hR,h2,h3⟩=>⟨b,u,h1,fun e=>hR (hXY b e),h2,ErO.weak hXY h3⟩
theorem ErO.iface {w:World} {X:Nat->Prop} {d:Nat} {v:Value} {n:Int} (h:ErO w X d v n):∃ t x,v=.iface t x:=h.er.iface
def RSX (w0 w:World) (R:Nat) (X:Nat->Prop) (st:Option (List Int)):Prop :=
 (X R/\∀ k,X k->k < w.heap.size)/\(∃ x,w.cell? ⟨R,1,none⟩=some (.bool x))/\∃ bv l E,Rdr w R bv E/\Byt w0 bv l/\Below w0.heap.size w0 w/\w0.heap.size<=R /\
  ((st=some l/\E=.nilIface)\/(st=none/\∃ d n,d<=2/\ErO w X d E n))
theorem RSX.lt {w0 w:World} {R:Nat} {X:Nat->Prop} {st:Option (List Int)} (h:RSX w0 w R X st):R < w.heap.size:=by
 obtain⟨_,⟨x,h⟩,_⟩:=h
 exact cell_lt h
theorem RSX.keep {w0 w:World} {R:Nat} {X:Nat->Prop} {st:Option (List Int)} (h:RSX w0 w R X st):Below w0.heap.size w0 w:=by
 obtain⟨_,_,_,_,_,_,_,h,_⟩:=h
 exact h
def Stp {α:Type} (f:List Int->Option (α×List Int)) (st:Option (List Int)) (x:α) (st':Option (List Int)):Prop :=
 match st with
 | none=>st'=none
 | some l=>match f l with
  | none=>st'=none
  | some (y,l')=>x=y/\st'=some l'
theorem xs_grow {X:Nat->Prop} {R:Nat} {w w':World} (h:X R/\∀ k,X k->k < w.heap.size) (hs:w.heap.size<=w'.heap.size):X R/\∀ k,X k->k < w'.heap.size:=⟨h.1,fun k hk=>Nat.lt_of_lt_of_le (h.2 k hk) hs⟩
theorem RSX.move {w0 w w':World} {R:Nat} {X:Nat->Prop} {st:Option (List Int)} {may:Nat->Prop} (h:RSX w0 w R X st) (hx:BX R may w w') (h19:¬ may 19) (h20:¬ may 20) (h1:¬ may 1):RSX w0 w' R X st:=by
 obtain⟨hX,⟨x,hd⟩,bv,l,E,⟨r1,r2,r3,r4⟩,hb,hw,hR,hst⟩:=h
 refine⟨xs_grow hX hx.size,⟨x,(hx.cell 1 h1).trans hd⟩,bv,l,E,⟨(hx.cell 19 h19).trans r1,(hx.frozen 19).trans r2,(hx.cell 20 h20).trans r3,(hx.frozen 20).trans r4⟩,hb,hx.keep hw hR,hR,?_⟩
 rcases hst with h | ⟨h,d,n,hd,he⟩
 ·exact .inl h
 ·exact .inr ⟨h,d,n,hd,he.bx hx hX.1⟩
theorem RSX.below {w0 w w':World} {R:Nat} {X:Nat->Prop} {st:Option (List Int)} (h:RSX w0 w R X st) (hb:Below w.heap.size w w'):RSX w0 w' R X st:=h.move (BX.of_below (may:=fun _=>False) hb h.lt) (fun h=>h) (fun h=>h) (fun h=>h)
theorem RSX.less {w0 w:World} {R:Nat} {X:Nat->Prop} {st:Option (List Int)} (h:RSX w0 w R X st) (Y:Nat->Prop) (hY:Y R) (hXY:∀ k,Y k->X k):RSX w0 w R Y st:=by
 obtain⟨hX,hd,bv,l,E,hr,hb,hw,hR,hst⟩:=h
 refine⟨⟨hY,fun k hk=>hX.2 k (hXY k hk)⟩,hd,bv,l,E,hr,hb,hw,hR,?_⟩
 rcases hst with h | ⟨h,d,n,hd,he⟩
 ·exact .inl h
 ·exact .inr ⟨h,d,n,hd,he.weak hXY⟩
theorem RSX.good {w0 w:World} {R:Nat} {X:Nat->Prop} {l:List Int} (h:RSX w0 w R X (some l)) (Y:Nat->Prop) (hY:Y R/\∀ k,Y k->k < w.heap.size):RSX w0 w R Y (some l):=by
 obtain⟨hX,hd,bv,l',E,hr,hb,hw,hR,hst⟩:=h
 refine⟨hY,hd,bv,l',E,hr,hb,hw,hR,?_⟩
 rcases hst with h | ⟨h,_⟩
 ·exact .inl h
 ·cases h
abbrev RS (w0 w:World) (R:Nat) (st:Option (List Int)):Prop:=RSX w0 w R (fun k=>k=R) st
theorem isRE1:¬ isRE 1:=by unfold isRE;omega
theorem must_anyX (R:Nat) (X:Nat->Prop) (b:Bool) (st:Option (List Int)) (w0 w:World) (h:RSX w0 w R X st):Calls Tryz.prog 53 #[.pointer (some ⟨R,0,none⟩),.bool b] w fun e w'=>e=.returned (.tuple #[])/\RSX w0 w' R X (if b then st else none)/\BX R isRE w w':=by
 obtain⟨hX,⟨x,hd⟩,bv,l,E,hr,hb,hw,hR,hst⟩:=h
 cases b
 ·rcases hst with⟨rfl,rfl⟩ | ⟨rfl,d,n,hd',he⟩
  ·refine (must_false R bv w hr).mono ?_
   rintro e w' ⟨rfl,hr',hx⟩
   have hx':BX R isRE w w':=hx.weak (fun j hj=>.inr hj)
   exact⟨rfl,⟨xs_grow hX hx.size,⟨x,(hx'.cell 1 isRE1).trans hd⟩,bv,l,_,hr',hb,hx.keep hw hR,hR,.inr ⟨rfl,0,1,by omega,rfl⟩⟩,hx'⟩
  ·obtain⟨t,y,rfl⟩:=he.iface
   refine (must_false2 R bv t y w hr).mono ?_
   rintro e w' ⟨rfl,rfl⟩
   exact⟨rfl,⟨hX,⟨x,hd⟩,bv,l,_,hr,hb,hw,hR,.inr ⟨rfl,d,n,hd',he⟩⟩,BX.refl _ _ _⟩
 ·refine (must_true R w).mono ?_
  rintro e w' ⟨rfl,rfl⟩
  exact⟨rfl,⟨hX,⟨x,hd⟩,bv,l,E,hr,hb,hw,hR,hst⟩,BX.refl _ _ _⟩
theorem must_any (R:Nat) (b:Bool) (st:Option (List Int)) (w0 w:World) (h:RS w0 w R st):Calls Tryz.prog 53 #[.pointer (some ⟨R,0,none⟩),.bool b] w fun e w'=>e=.returned (.tuple #[])/\RS w0 w' R (if b then st else none)/\BX R isRE w w':=must_anyX R _ b st w0 w h
def RdIX (w0:World) (R:Nat) (X:Nat->Prop) (hi:Nat) (f:List Int->Option (Int×List Int)) (st:Option (List Int)) (w:World) (e:Ending) (w':World):Prop :=
 ∃ x st',e=.returned (.int .i64 x)/\(0<=x/\x<=hi)/\Stp f st x st'/\RSX w0 w' R X st'/\BX R isRE w w'
abbrev RdI (w0:World) (R hi:Nat) (f:List Int->Option (Int×List Int)) (st:Option (List Int)) (w:World) (e:Ending) (w':World):Prop:=RdIX w0 R (fun k=>k=R) hi f st w e w'
theorem int_any {fn:FuncId} (w0:World) (R:Nat) (X:Nat->Prop) (hi:Nat) (f:List Int->Option (Int×List Int)) (st:Option (List Int)) (w:World) (h:RSX w0 w R X st)
  (hf:∀ l x l',f l=some (x,l')->(∀ j,0<=l.getD j 0/\l.getD j 0<=255)->0<=x/\x<=hi)
  (good:∀ bv l,Rdr w R bv .nilIface->Byt w0 bv l->Below w0.heap.size w0 w->w0.heap.size<=R->Calls Tryz.prog fn #[.pointer (some ⟨R,0,none⟩)] w (IntRes w0 R hi (f l) w))
  (bad:∀ bv t z l,Rdr w R bv (.iface t z)->Byt w0 bv l->Below w0.heap.size w0 w->w0.heap.size<=R->Calls Tryz.prog fn #[.pointer (some ⟨R,0,none⟩)] w (IntBad w0 R hi t z w)) :
  Calls Tryz.prog fn #[.pointer (some ⟨R,0,none⟩)] w (RdIX w0 R X hi f st w):=by
 obtain⟨hX,⟨x,hd⟩,bv,l,E,hr,hb,hw,hR,hst⟩:=h
 rcases hst with⟨rfl,rfl⟩ | ⟨rfl,d,n,hd',he⟩
 ·refine (good bv l hr hb hw hR).mono ?_
  rintro e w' (⟨y,l',bv',h1,rfl,h3,h4,h5⟩ | ⟨h1,y,l',bv',n,rfl,h2,h3,h4,h5⟩)
  ·exact⟨y,some l',rfl,hf l y l' h1 hb.range,by simp[Stp,h1],⟨xs_grow hX h5.size,⟨x,(h5.cell 1 isRE1).trans hd⟩,bv',l',_,h4,h3,h5.keep hw hR,hR,.inl ⟨rfl,rfl⟩⟩,h5⟩
  ·exact⟨y,none,rfl,h2,by simp[Stp,h1],⟨xs_grow hX h5.size,⟨x,(h5.cell 1 isRE1).trans hd⟩,bv',l',_,h4,h3,h5.keep hw hR,hR,.inr ⟨rfl,0,n,by omega,rfl⟩⟩,h5⟩
 ·obtain⟨t,z,rfl⟩:=he.iface
  refine (bad bv t z l hr hb hw hR).mono ?_
  rintro e w' ⟨y,l',bv',rfl,h2,h3,h4,h5⟩
  exact⟨y,none,rfl,h2,rfl,⟨xs_grow hX h5.size,⟨x,(h5.cell 1 isRE1).trans hd⟩,bv',l',_,h4,h3,h5.keep hw hR,hR,.inr ⟨rfl,d,n,hd',he.bx h5 hX.1⟩⟩,h5⟩
theorem one?_hi (l:List Int) (x:Int) (l':List Int) (h:one? l=some (x,l')) (hr:∀ j,0<=l.getD j 0/\l.getD j 0<=255):0<=x/\x<=(255:Nat):=by
 cases l with
 | nil=>cases h
 | cons a t=>simp[one?]at h;obtain⟨rfl,_⟩:=h;simpa using hr 0
theorem two?_hi (l:List Int) (x:Int) (l':List Int) (h:two? l=some (x,l')) (hr:∀ j,0<=l.getD j 0/\l.getD j 0<=255):0<=x/\x<=(65535:Nat):=by
 match l,h with
 | [],h=>cases h
 | [a],h=>cases h
 | a :: b :: t,h =>
  simp[two?]at h
  obtain⟨rfl,_⟩:=h
  have h0:=hr 0
  have h1:=hr 1
  simp at h0 h1
  omega
theorem id?_hi (l:List Int) (x:Int) (l':List Int) (h:id? l=some (x,l')) (hr:∀ j,0<=l.getD j 0/\l.getD j 0<=255):0<=x/\x<=(65535:Nat):=by
 unfold id? at h
 cases h2:two? l with
 | none=>rw[h2]at h;cases h
 | some p =>
  obtain⟨y,t⟩:=p
  rw[h2]at h
  simp only at h
  split at h
  ·cases h
  ·simp at h
   obtain⟨rfl,rfl⟩:=h
   exact two?_hi l y t h2 hr
theorem one_anyX (R:Nat) (X:Nat->Prop) (st:Option (List Int)) (w0 w:World) (h:RSX w0 w R X st):Calls Tryz.prog 52 #[.pointer (some ⟨R,0,none⟩)] w (RdIX w0 R X 255 one? st w) :=
 int_any w0 R X 255 one? st w h one?_hi (fun bv l h1 h2 h3 h4=>one_good R bv l w0 w h1 h2 h3 h4) (fun bv t z l h1 h2 h3 h4=>one_bad R bv t z l w0 w h1 h2 h3 h4)
theorem one_any (R:Nat) (st:Option (List Int)) (w0 w:World) (h:RS w0 w R st):Calls Tryz.prog 52 #[.pointer (some ⟨R,0,none⟩)] w (RdI w0 R 255 one? st w):=one_anyX R _ st w0 w h
theorem two_anyX (R:Nat) (X:Nat->Prop) (st:Option (List Int)) (w0 w:World) (h:RSX w0 w R X st):Calls Tryz.prog 81 #[.pointer (some ⟨R,0,none⟩)] w (RdIX w0 R X 65535 two? st w) :=
 int_any w0 R X 65535 two? st w h two?_hi (fun bv l h1 h2 h3 h4=>two_good R bv l w0 w h1 h2 h3 h4) (fun bv t z l h1 h2 h3 h4=>two_bad R bv t z l w0 w h1 h2 h3 h4)
theorem two_any (R:Nat) (st:Option (List Int)) (w0 w:World) (h:RS w0 w R st):Calls Tryz.prog 81 #[.pointer (some ⟨R,0,none⟩)] w (RdI w0 R 65535 two? st w):=two_anyX R _ st w0 w h
theorem id_anyX (R:Nat) (X:Nat->Prop) (st:Option (List Int)) (w0 w:World) (h:RSX w0 w R X st):Calls Tryz.prog 56 #[.pointer (some ⟨R,0,none⟩)] w (RdIX w0 R X 65535 id? st w) :=
 int_any w0 R X 65535 id? st w h id?_hi (fun bv l h1 h2 h3 h4=>id_good R bv l w0 w h1 h2 h3 h4) (fun bv t z l h1 h2 h3 h4=>id_bad R bv t z l w0 w h1 h2 h3 h4)
theorem id_any (R:Nat) (st:Option (List Int)) (w0 w:World) (h:RS w0 w R st):Calls Tryz.prog 56 #[.pointer (some ⟨R,0,none⟩)] w (RdI w0 R 65535 id? st w):=id_anyX R _ st w0 w h
def orE:Value->Value->Value
 | .nilIface,b=>b
 | a,_=>a
theorem fail_any (R:Nat) (bv E F:Value) (w:World) (h:Rdr w R bv E) (hE:E=.nilIface\/∃ t x,E=.iface t x) (hF:F=.nilIface\/∃ t x,F=.iface t x):Calls Tryz.prog 84 #[.pointer (some ⟨R,0,none⟩),F] w fun e w'=>e=.returned (.tuple #[])/\Rdr w' R bv (orE E F)/\BX R isRE w w':=by
 rcases hE with rfl | ⟨t,x,rfl⟩
 ·rcases hF with rfl | ⟨t,x,rfl⟩
  ·refine (fail_nils R bv w h).mono ?_
   rintro e w' ⟨rfl,h1,h2⟩
   exact⟨rfl,h1,h2.weak (fun j hj=>.inr hj)⟩
  ·refine (fail_nil R bv t x w h).mono ?_
   rintro e w' ⟨rfl,h1,h2⟩
   exact⟨rfl,h1,h2.weak (fun j hj=>.inr hj)⟩
 ·refine (fail_set R bv F t x w h).mono ?_
  rintro e w' ⟨rfl,rfl⟩
  exact⟨rfl,h,BX.refl _ _ _⟩
def Bel (w:World) (X:Nat->Prop) (v:Value) (n:Int):Prop:=(n=0/\v=.nilIface)\/(n≠0/\∃ d,d<=2/\ErO w X d v n)
theorem Bel.form {w:World} {X:Nat->Prop} {v:Value} {n:Int} (h:Bel w X v n):v=.nilIface\/∃ t x,v=.iface t x:=by
 rcases h with⟨_,h⟩ | ⟨_,d,_,h⟩
 ·exact .inl h
 ·exact .inr h.iface
theorem er_of_is {w:World} {v:Value} {n:Int} (h:ErrIs w v n):(n=0/\v=.nilIface)\/∃ d,d<=2/\Er w d v n:=by
 rcases h with h | ⟨b,h1,h2⟩
 ·exact .inl h
 ·exact .inr ⟨1,by omega,b,_,h1,h2,rfl⟩
theorem er_of_p {w:World} {v:Value} {n:Int} (h:ErrP w v n):(n=0/\v=.nilIface)\/∃ d,d<=2/\Er w d v n:=by
 rcases h with h | ⟨b,c,h1,h2,h3⟩
 ·exact er_of_is h
 ·exact .inr ⟨2,by omega,b,_,h1,h2,c,_,rfl,h3,rfl⟩
theorem bel_new {w w':World} {X:Nat->Prop} {b:Nat} {n:Int} (hX:∀ k,X k->k < w.heap.size) (hb:w.heap.size<=b) (h:ErrIs w' (.iface 118 (.pointer (some ⟨b,0,none⟩))) n) (hn:n≠0):Bel w' X (.iface 118 (.pointer (some ⟨b,0,none⟩))) n:=by
 rcases h with⟨h,_⟩ | ⟨b',h1,h2⟩
 ·exact absurd h hn
 ·cases h1
  exact .inr ⟨hn,1,by omega,b,_,rfl,fun e=>by have:=hX b e;omega,h2,rfl⟩
theorem after (w0 w w1 w2 w3:World) (R:Nat) (X:Nat->Prop) (bv' E F:Value) (st:Option (List Int)) (l:List Int) (n:Nat) (m:Int) (c:Bool) (hX:X R/\∀ k,X k->k < w.heap.size)
  (hd:w.cell? ⟨R,1,none⟩=some (.bool c)) (hw:Below w0.heap.size w0 w) (hR:w0.heap.size<=R) (hst:(st=some l/\E=.nilIface)\/(st=none/\∃ d n,d<=2/\ErO w X d E n))
  (hB:Below w.heap.size w w1) (hF:Bel w1 X F m) (hx2:BX R isRE w1 w2) (hx3:BX R isRE w2 w3) (hb':Byt w0 bv' (l.drop n)) (hr3:Rdr w3 R bv' (orE E F)) :
  RSX w0 w3 R X (if m=0 then st.map (fun l=>l.drop n) else none)/\BX R isRE w w3:=by
 have hx1:BX R isRE w w1:=BX.of_below hB (cell_lt hd)
 have hx:BX R isRE w w3:=(hx1.trans hx2).trans hx3
 refine⟨⟨xs_grow hX hx.size,⟨c,(hx.cell 1 isRE1).trans hd⟩,bv',l.drop n,orE E F,hr3,hb',hx.keep hw hR,hR,?_⟩,hx⟩
 rcases hst with⟨rfl,rfl⟩ | ⟨rfl,d,k,hd',he⟩
 ·rcases hF with⟨rfl,rfl⟩ | ⟨h0,d,hd',he⟩
  ·exact .inl ⟨rfl,rfl⟩
  ·obtain⟨t,x,rfl⟩:=he.iface
   rw[if_neg h0]
   exact .inr ⟨rfl,d,m,hd',he.bx (hx2.trans hx3) hX.1⟩
 ·obtain⟨t,x,rfl⟩:=he.iface
  refine .inr ⟨?_,d,k,hd',he.bx hx hX.1⟩
  split <;> rfl
theorem Rdr.below {w w':World} {R:Nat} {bv E:Value} (h:Rdr w R bv E) (hb:Below w.heap.size w w'):Rdr w' R bv E :=
 ⟨(hb.cell (p:=⟨R,19,none⟩) h.lt).trans h.1,(hb.frozen (p:=⟨R,19,none⟩) h.lt).trans h.2.1,(hb.cell (p:=⟨R,20,none⟩) h.lt).trans h.2.2.1,(hb.frozen (p:=⟨R,20,none⟩) h.lt).trans h.2.2.2⟩
theorem st_form {w:World} {X:Nat->Prop} {E:Value} {st:Option (List Int)} {l:List Int} (hst:(st=some l/\E=.nilIface)\/(st=none/\∃ d n,d<=2/\ErO w X d E n)):E=.nilIface\/∃ t x,E=.iface t x:=by
 rcases hst with⟨_,h⟩ | ⟨_,d,n,_,h⟩
 ·exact .inl h
 ·exact .inr h.iface
theorem getx (X:Nat->Prop) (v:Value) (l:List Int) (w:World) (hX:∀ k,X k->k < w.heap.size) (hv:Byt w v l):Calls Tryz.prog 114 #[v] w fun e w'=>∃ E,e=.returned (.tuple #[.string (gt l).1,.int .i64 (gt l).2.1,E])/\Hid (Bel w' X E (gt l).2.2)/\Below w.heap.size w w':=by
 unfold gt
 by_cases hf:full l=true
 ·rw[if_pos hf]
  by_cases hu:utf (sb (gbs l))=true
  ·rw[if_pos hu]
   refine (get_ok v l w hv hf hu).mono ?_
   rintro e w' ⟨rfl,q,rfl⟩
   exact⟨_,rfl,.inl ⟨rfl,rfl⟩,below_q q⟩
  ·rw[if_neg hu]
   refine (get_form v l w hv hf (by simpa using hu)).mono ?_
   rintro e w' ⟨rfl,q,rfl⟩
   exact⟨_,rfl,bel_new hX (Nat.le_refl _) (fault_is 1 (w.drewN q)) (by decide),(below_q q).trans (fault_below 1 (w.drewN q))⟩
 ·rw[if_neg hf]
  refine (get_short v l w hv (by simpa using hf)).mono ?_
  rintro e w' ⟨rfl,q,rfl⟩
  exact⟨_,rfl,bel_new hX (Nat.le_refl _) (fault_is 3 (w.drewN q)) (by decide),(below_q q).trans (fault_below 3 (w.drewN q))⟩
theorem getBinx (X:Nat->Prop) (v:Value) (l:List Int) (w:World) (hX:∀ k,X k->k < w.heap.size) (hv:Byt w v l):Calls Tryz.prog 116 #[v] w fun e w'=>∃ E,e=.returned (.tuple #[.string (gbn l).1,.int .i64 (gbn l).2.1,E])/\Hid (Bel w' X E (gbn l).2.2)/\Below w.heap.size w w':=by
 by_cases hf:full l=true
 ·unfold gbn
  rw[if_pos hf]
  refine (gbin_ok v l w hv hf).mono ?_
  rintro e w' ⟨rfl,q,rfl⟩
  exact⟨_,rfl,.inl ⟨rfl,rfl⟩,below_q q⟩
 ·unfold gbn
  rw[if_neg hf]
  refine (gbin_short v l w hv (by simpa using hf)).mono ?_
  rintro e w' ⟨rfl,q,rfl⟩
  exact⟨_,rfl,bel_new hX (Nat.le_refl _) (fault_is 3 (w.drewN q)) (by decide),(below_q q).trans (fault_below 3 (w.drewN q))⟩
theorem full_len (l:List Int) (h:full l=true):2+nb l<=l.length:=by
 unfold full at h
 simp at h
 omega
theorem es_size:(⟨#[]⟩:ByteArray).size<=65535:=by decide
theorem gt_len (l:List Int) (hr:∀ j,0<=l.getD j 0/\l.getD j 0<=255):∃ N:Nat,(gt l).2.1=(N:Int)/\N<=l.length/\(gt l).1.size<=65535:=by
 unfold gt
 by_cases hf:full l=true
 ·rw[if_pos hf]
  by_cases hu:utf (sb (gbs l))=true
  ·rw[if_pos hu]
   exact⟨2+nb l,rfl,full_len l hf,gbs_size l hr⟩
  ·rw[if_neg hu]
   exact⟨0,rfl,Nat.zero_le _,es_size⟩
 ·rw[if_neg hf]
  exact⟨0,rfl,Nat.zero_le _,es_size⟩
theorem gbn_len (l:List Int) (hr:∀ j,0<=l.getD j 0/\l.getD j 0<=255):∃ N:Nat,(gbn l).2.1=(N:Int)/\N<=l.length/\(gbn l).1.size<=65535:=by
 unfold gbn
 by_cases hf:full l=true
 ·rw[if_pos hf]
  exact⟨2+nb l,rfl,full_len l hf,gbs_size l hr⟩
 ·rw[if_neg hf]
  exact⟨0,rfl,Nat.zero_le _,es_size⟩
def text? (l:List Int):Option (ByteArray×List Int):=if (gt l).2.2=0 then some ((gt l).1,l.drop (gt l).2.1.toNat) else none
def bin? (l:List Int):Option (ByteArray×List Int):=if (gbn l).2.2=0 then some ((gbn l).1,l.drop (gbn l).2.1.toNat) else none
def RdSX (w0:World) (R:Nat) (X:Nat->Prop) (f:List Int->Option (ByteArray×List Int)) (st:Option (List Int)) (w:World) (e:Ending) (w':World):Prop :=
 ∃ x st',e=.returned (.string x)/\x.size<=65535/\Stp f st x st'/\RSX w0 w' R X st'/\BX R isRE w w'
abbrev RdS (w0:World) (R:Nat) (f:List Int->Option (ByteArray×List Int)) (st:Option (List Int)) (w:World) (e:Ending) (w':World):Prop:=RdSX w0 R (fun k=>k=R) f st w e w'
theorem stp_get {α:Type} (f:List Int->Option (α×List Int)) (st:Option (List Int)) (l:List Int) (x:α) (n:Nat) (m:Int) (hst:st=some l\/st=none) (hf:f l=if m=0 then some (x,l.drop n) else none):Stp f st x (if m=0 then st.map (fun l=>l.drop n) else none):=by
 rcases hst with rfl | rfl
 ·unfold Stp
  simp only[hf]
  by_cases h:m=0
  ·simp[h]
  ·simp[h]
 ·show (if m=0 then _ else _)=none
  split <;> rfl
theorem text_anyX (R:Nat) (X:Nat->Prop) (st:Option (List Int)) (w0 w:World) (h:RSX w0 w R X st):Calls Tryz.prog 79 #[.pointer (some ⟨R,0,none⟩)] w (RdSX w0 R X text? st w):=by
 obtain⟨hX,⟨c,hd⟩,bv,l,E,hr,hb,hw,hR,hst⟩:=h
 obtain⟨n,hN,hn,hsz⟩:=gt_len l hb.range
 have HG:=zh (getx X bv l w hX.2 (hb.below hw))
 have HQ:Hid (text? l=if (gt l).2.2=0 then some ((gt l).1,l.drop n) else none):=by
  show text? l=_
  unfold text?
  rw[hN,Int.toNat_natCast]
 rw[hN]at HG
 have hE:=st_form hst
 have hst':st=some l\/st=none:=hst.imp And.left And.left
 have HR:=zh hr
 have HB:=zh hb
 have HA:=zh (after w0 w)
 have HD:=zh hd
 have HW:=zh hw
 have HS:=zh hst
 have HS':=zh hst'
 have HE:=zh hE
 have HX:=zh hX
 generalize (gt l).1=g at HG HQ hsz
 generalize (gt l).2.2=m at HG HQ
 obtain⟨h1,h2,h3,h4⟩:=hr
 clear hN hd hb hw hst hst' hE h2 h3 h4 hX
 go_enter Tryz.func79,Tryz.ntmps79
 go_wp2_with fail
 refine (uh HG).mono ?_
 rintro e w1 ⟨F,rfl,hF,hB⟩
 have HB1:=zh hB
 have HR1:=zh ((uh HR).below hB)
 clear hB h1
 go_wp2_with fail
 refine (fail_any R bv E F w1 (uh HR1) (uh HE) (uh hF).form).mono ?_
 rintro e w2 ⟨rfl,hr2,hx2⟩
 have HR2:=zh hr2
 have HX2:=zh hx2
 clear hr2 hx2
 go_wp2_with fail
 refine (next_ok R bv (orE E F) l n w0 w2 (uh HR2) (uh HB) hn).mono ?_
 rintro e w3 ⟨v,bv',rfl,hv,hbv,hr3,hx3⟩
 have HV:=zh hbv
 have HR3:=zh hr3
 have HX3:=zh hx3
 clear hv hbv hr3 hx3
 go_wp2
 go_ret
 have k:=(uh HA) w1 w2 w3 R X bv' E F st l n m c (uh HX) (uh HD) (uh HW) hR (uh HS) (uh HB1) (uh hF) (uh HX2) (uh HX3) (uh HV) (uh HR3)
 exact⟨g,_,rfl,hsz,stp_get text? st l g n m (uh HS') (uh HQ),k.1,k.2⟩
theorem text_any (R:Nat) (st:Option (List Int)) (w0 w:World) (h:RS w0 w R st):Calls Tryz.prog 79 #[.pointer (some ⟨R,0,none⟩)] w (RdS w0 R text? st w):=text_anyX R _ st w0 w h
theorem bin_anyX (R:Nat) (X:Nat->Prop) (st:Option (List Int)) (w0 w:World) (h:RSX w0 w R X st):Calls Tryz.prog 82 #[.pointer (some ⟨R,0,none⟩)] w (RdSX w0 R X bin? st w):=by
 obtain⟨hX,⟨c,hd⟩,bv,l,E,hr,hb,hw,hR,hst⟩:=h
 obtain⟨n,hN,hn,hsz⟩:=gbn_len l hb.range
 have HG:=zh (getBinx X bv l w hX.2 (hb.below hw))
 have HQ:Hid (bin? l=if (gbn l).2.2=0 then some ((gbn l).1,l.drop n) else none):=by
  show bin? l=_
  unfold bin?
  rw[hN,Int.toNat_natCast]
 rw[hN]at HG
 have hE:=st_form hst
 have hst':st=some l\/st=none:=hst.imp And.left And.left
 have HR:=zh hr
 have HB:=zh hb
 have HA:=zh (after w0 w)
 have HD:=zh hd
 have HW:=zh hw
 have HS:=zh hst
 have HS':=zh hst'
 have HE:=zh hE
 have HX:=zh hX
 generalize (gbn l).1=g at HG HQ hsz
 generalize (gbn l).2.2=m at HG HQ
 obtain⟨h1,h2,h3,h4⟩:=hr
 clear hN hd hb hw hst hst' hE h2 h3 h4 hX
 go_enter Tryz.func82,Tryz.ntmps82
 go_wp2_with fail
 refine (uh HG).mono ?_
 rintro e w1 ⟨F,rfl,hF,hB⟩
 have HB1:=zh hB
 have HR1:=zh ((uh HR).below hB)
 clear hB h1
 go_wp2_with fail
 refine (fail_any R bv E F w1 (uh HR1) (uh HE) (uh hF).form).mono ?_
 rintro e w2 ⟨rfl,hr2,hx2⟩
 have HR2:=zh hr2
 have HX2:=zh hx2
 clear hr2 hx2
 go_wp2_with fail
 refine (next_ok R bv (orE E F) l n w0 w2 (uh HR2) (uh HB) hn).mono ?_
 rintro e w3 ⟨v,bv',rfl,hv,hbv,hr3,hx3⟩
 have HV:=zh hbv
 have HR3:=zh hr3
 have HX3:=zh hx3
 clear hv hbv hr3 hx3
 go_wp2
 go_ret
 have k:=(uh HA) w1 w2 w3 R X bv' E F st l n m c (uh HX) (uh HD) (uh HW) hR (uh HS) (uh HB1) (uh hF) (uh HX2) (uh HX3) (uh HV) (uh HR3)
 exact⟨g,_,rfl,hsz,stp_get bin? st l g n m (uh HS') (uh HQ),k.1,k.2⟩
theorem bin_any (R:Nat) (st:Option (List Int)) (w0 w:World) (h:RS w0 w R st):Calls Tryz.prog 82 #[.pointer (some ⟨R,0,none⟩)] w (RdS w0 R bin? st w):=bin_anyX R _ st w0 w h
end Go.Proofs.YtpheelbbpiieiaaGreatDoor.K
