/- Proved here: helpers, one text behind the other. -/
import Derived.Test.YtdkmmmjjdlnnoaaGreatDoorZC15
import Derived.Test.YtdkmmmjjdlnnoaaGreatDoorZC6
set_option maxHeartbeats 20000000
namespace Go.Proofs.YtdkmmmjjdlnnoaaGreatDoor.K
open Go.RowKit
set_option maxRecDepth 100000
theorem mayCount_any (n:Int) (w:World):Calls Tryz.prog 118 #[.int .i64 n] w fun e w'=>e=.returned (.bool (mc n))/\w'=w:=by
 by_cases h0:1<=n
 ·by_cases h2:n<=16
  ·go_enter Tryz.func118,Tryz.ntmps118
   go_wp2
   go_ret
   exact⟨by unfold mc;rw[decide_eq_true h0,decide_eq_true h2];rfl,rfl⟩
  ·go_enter Tryz.func118,Tryz.ntmps118
   go_wp2
   go_ret
   exact⟨by unfold mc;rw[decide_eq_true h0,decide_eq_false (by omega)];rfl,rfl⟩
 ·go_enter Tryz.func118,Tryz.ntmps118
  go_wp2
  go_ret
  exact⟨by unfold mc;rw[decide_eq_false (by omega)];rfl,rfl⟩
theorem optionsOf_any (f:ByteArray) (q:Int) (nl ap:Bool) (h:Int) (w:World):Calls Tryz.prog 151 #[.agg #[.string f,.int .i64 q,.bool nl,.bool ap,.int .i64 h]] w fun e w'=>e=.returned (.tuple #[.int .i64 (opv q nl ap h),.bool (opk q h)])/\Below w.heap.size w w':=by
 cases hm:mq q
 ·go_enter Tryz.func151,Tryz.ntmps151
  go_wp2_with fail
  refine (mayQoS_is q _ hm _).mono ?_
  rintro e w1 ⟨rfl,hw1⟩
  obtain rfl:=hw1.symm
  clear hw1
  go_wp2_with fail
  refine wp_region_noPanic ?_
  refine wp_region_held_drew (S:=(fun w'=>w'.cell? ⟨w.heap.size,1,none⟩=some (.int .i64 q)/\w'.cell? ⟨w.heap.size,2,none⟩=some (.bool nl)/\w'.cell? ⟨w.heap.size,3,none⟩=some (.bool ap)/\w'.cell? ⟨w.heap.size,4,none⟩=some (.int .i64 h))) (by kernel_rfl) (by simp) (fun hHeld=>?_)
  refine rtk 0 (h:=?_)
  refine rtk 1 (h:=?_)
  refine rtk 2 (h:=?_)
  refine rtk 3 (h:=?_)
  refine rtk 6 (h:=?_)
  refine rtk 7 (h:=?_)
  refine rtk 10 (h:=?_)
  refine rtk 11 (h:=?_)
  refine rtk 12 (h:=?_)
  refine rtk 14 (h:=?_)
  refine rcl 4 (h:=fun K hK=>?_)
  go_simp
  refine (flag_is _ _ _).mono ?_
  rintro e w2 ⟨rfl,hw2⟩
  obtain rfl:=hw2.symm
  clear hw2
  refine hK.out _ _ (by simp) (fun hHeld=>?_)
  clear hK K
  refine rtk 5 (h:=?_)
  refine rcl 8 (h:=fun K hK=>?_)
  go_simp
  refine (flag_is _ _ _).mono ?_
  rintro e w2 ⟨rfl,hw2⟩
  obtain rfl:=hw2.symm
  clear hw2
  refine hK.out _ _ (by simp) (fun hHeld=>?_)
  clear hK K
  refine rtk 9 (h:=?_)
  refine rtk 13 (h:=?_)
  refine rcl 15 (h:=fun K hK=>?_)
  go_simp
  refine hK.out _ _ (by simp) (fun hHeld=>?_)
  clear hK K
  refine rcl 16 (h:=fun K hK=>?_)
  go_simp
  refine hK.out _ _ (by simp) (fun hHeld=>?_)
  clear hK K
  refine wpAnyH_done (by kernel_rfl) ?_ _
  refine NoPanic.normal ?_
  go_wp2
  go_returns
  exact⟨by simp[opv,opk,hm],by go_grown⟩
 ·by_cases h0:0<=h
  ·by_cases h2:h<=2
   ·go_enter Tryz.func151,Tryz.ntmps151
    go_wp2_with fail
    refine (mayQoS_is q _ hm _).mono ?_
    rintro e w1 ⟨rfl,hw1⟩
    obtain rfl:=hw1.symm
    clear hw1
    go_wp2_with fail
    refine wp_region_noPanic ?_
    refine wp_region_held_drew (S:=(fun w'=>w'.cell? ⟨w.heap.size,1,none⟩=some (.int .i64 q)/\w'.cell? ⟨w.heap.size,2,none⟩=some (.bool nl)/\w'.cell? ⟨w.heap.size,3,none⟩=some (.bool ap)/\w'.cell? ⟨w.heap.size,4,none⟩=some (.int .i64 h))) (by kernel_rfl) (by simp) (fun hHeld=>?_)
    refine rtk 0 (h:=?_)
    refine rtk 1 (h:=?_)
    refine rtk 2 (h:=?_)
    refine rtk 3 (h:=?_)
    refine rtk 6 (h:=?_)
    refine rtk 7 (h:=?_)
    refine rtk 10 (h:=?_)
    refine rtk 11 (h:=?_)
    refine rtk 12 (h:=?_)
    refine rtk 14 (h:=?_)
    refine rcl 4 (h:=fun K hK=>?_)
    go_simp
    refine (flag_is _ _ _).mono ?_
    rintro e w2 ⟨rfl,hw2⟩
    obtain rfl:=hw2.symm
    clear hw2
    refine hK.out _ _ (by simp) (fun hHeld=>?_)
    clear hK K
    refine rtk 5 (h:=?_)
    refine rcl 8 (h:=fun K hK=>?_)
    go_simp
    refine (flag_is _ _ _).mono ?_
    rintro e w2 ⟨rfl,hw2⟩
    obtain rfl:=hw2.symm
    clear hw2
    refine hK.out _ _ (by simp) (fun hHeld=>?_)
    clear hK K
    refine rtk 9 (h:=?_)
    refine rtk 13 (h:=?_)
    refine rcl 15 (h:=fun K hK=>?_)
    go_simp
    refine hK.out _ _ (by simp) (fun hHeld=>?_)
    clear hK K
    refine rcl 16 (h:=fun K hK=>?_)
    go_simp
    refine hK.out _ _ (by simp) (fun hHeld=>?_)
    clear hK K
    refine wpAnyH_done (by kernel_rfl) ?_ _
    refine NoPanic.normal ?_
    go_wp2
    go_returns
    exact⟨by simp[opv,opk,hm,h0,h2],by go_grown⟩
   ·go_enter Tryz.func151,Tryz.ntmps151
    go_wp2_with fail
    refine (mayQoS_is q _ hm _).mono ?_
    rintro e w1 ⟨rfl,hw1⟩
    obtain rfl:=hw1.symm
    clear hw1
    go_wp2_with fail
    refine wp_region_noPanic ?_
    refine wp_region_held_drew (S:=(fun w'=>w'.cell? ⟨w.heap.size,1,none⟩=some (.int .i64 q)/\w'.cell? ⟨w.heap.size,2,none⟩=some (.bool nl)/\w'.cell? ⟨w.heap.size,3,none⟩=some (.bool ap)/\w'.cell? ⟨w.heap.size,4,none⟩=some (.int .i64 h))) (by kernel_rfl) (by simp) (fun hHeld=>?_)
    refine rtk 0 (h:=?_)
    refine rtk 1 (h:=?_)
    refine rtk 2 (h:=?_)
    refine rtk 3 (h:=?_)
    refine rtk 6 (h:=?_)
    refine rtk 7 (h:=?_)
    refine rtk 10 (h:=?_)
    refine rtk 11 (h:=?_)
    refine rtk 12 (h:=?_)
    refine rtk 14 (h:=?_)
    refine rcl 4 (h:=fun K hK=>?_)
    go_simp
    refine (flag_is _ _ _).mono ?_
    rintro e w2 ⟨rfl,hw2⟩
    obtain rfl:=hw2.symm
    clear hw2
    refine hK.out _ _ (by simp) (fun hHeld=>?_)
    clear hK K
    refine rtk 5 (h:=?_)
    refine rcl 8 (h:=fun K hK=>?_)
    go_simp
    refine (flag_is _ _ _).mono ?_
    rintro e w2 ⟨rfl,hw2⟩
    obtain rfl:=hw2.symm
    clear hw2
    refine hK.out _ _ (by simp) (fun hHeld=>?_)
    clear hK K
    refine rtk 9 (h:=?_)
    refine rtk 13 (h:=?_)
    refine rcl 15 (h:=fun K hK=>?_)
    go_simp
    refine hK.out _ _ (by simp) (fun hHeld=>?_)
    clear hK K
    refine rcl 16 (h:=fun K hK=>?_)
    go_simp
    refine hK.out _ _ (by simp) (fun hHeld=>?_)
    clear hK K
    refine wpAnyH_done (by kernel_rfl) ?_ _
    refine NoPanic.normal ?_
    go_wp2
    go_returns
    exact⟨by simp[opv,opk,hm,h0],by go_grown⟩
  ·go_enter Tryz.func151,Tryz.ntmps151
   go_wp2_with fail
   refine (mayQoS_is q _ hm _).mono ?_
   rintro e w1 ⟨rfl,hw1⟩
   obtain rfl:=hw1.symm
   clear hw1
   go_wp2_with fail
   refine wp_region_noPanic ?_
   refine wp_region_held_drew (S:=(fun w'=>w'.cell? ⟨w.heap.size,1,none⟩=some (.int .i64 q)/\w'.cell? ⟨w.heap.size,2,none⟩=some (.bool nl)/\w'.cell? ⟨w.heap.size,3,none⟩=some (.bool ap)/\w'.cell? ⟨w.heap.size,4,none⟩=some (.int .i64 h))) (by kernel_rfl) (by simp) (fun hHeld=>?_)
   refine rtk 0 (h:=?_)
   refine rtk 1 (h:=?_)
   refine rtk 2 (h:=?_)
   refine rtk 3 (h:=?_)
   refine rtk 6 (h:=?_)
   refine rtk 7 (h:=?_)
   refine rtk 10 (h:=?_)
   refine rtk 11 (h:=?_)
   refine rtk 12 (h:=?_)
   refine rtk 14 (h:=?_)
   refine rcl 4 (h:=fun K hK=>?_)
   go_simp
   refine (flag_is _ _ _).mono ?_
   rintro e w2 ⟨rfl,hw2⟩
   obtain rfl:=hw2.symm
   clear hw2
   refine hK.out _ _ (by simp) (fun hHeld=>?_)
   clear hK K
   refine rtk 5 (h:=?_)
   refine rcl 8 (h:=fun K hK=>?_)
   go_simp
   refine (flag_is _ _ _).mono ?_
   rintro e w2 ⟨rfl,hw2⟩
   obtain rfl:=hw2.symm
   clear hw2
   refine hK.out _ _ (by simp) (fun hHeld=>?_)
   clear hK K
   refine rtk 9 (h:=?_)
   refine rtk 13 (h:=?_)
   refine rcl 15 (h:=fun K hK=>?_)
   go_simp
   refine hK.out _ _ (by simp) (fun hHeld=>?_)
   clear hK K
   refine rcl 16 (h:=fun K hK=>?_)
   go_simp
   refine hK.out _ _ (by simp) (fun hHeld=>?_)
   clear hK K
   refine wpAnyH_done (by kernel_rfl) ?_ _
   refine NoPanic.normal ?_
   go_wp2
   go_returns
   exact⟨by simp[opv,opk,hm];omega,by go_grown⟩
end Go.Proofs.YtdkmmmjjdlnnoaaGreatDoor.K
