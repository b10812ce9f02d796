/- Proved here: helpers, one text behind the other. -/
import Derived.Handy
import Derived.Test.YtpheelbbpiieiaaGreatDoorZC9
set_option maxHeartbeats 20000000
namespace Go.Proofs.YtpheelbbpiieiaaGreatDoor
open Go.RowKit
set_option maxRecDepth 100000
def frm (id:Int):Int:=if kd id=1\/kd id=2\/kd id=4 then 1 else if kd id=5 then 2 else if kd id=6 then 3 else if kd id=7 then 4 else if kd id=8 then 5 else 0
def wid (id:Int):Int:=if kd id=1\/kd id=2\/kd id=4 then kd id else 0
def shv (id:Int):Value:=.agg #[.int .i64 (frm id),.int .i64 (wid id),.int .i64 (lst id),.int .i64 (mx id)]
theorem shv_none (id:Int) (hk:kd id=0) (hl:lst id=0):shv id=.agg #[.int .i64 0,.int .i64 0,.int .i64 0,.int .i64 0]:=by
 simp[shv,frm,wid,mx,hk,hl]
theorem shape_any (id:Int) (w:World):Calls Tryz.prog 159 #[.int .i64 id] w fun e w'=>e=.returned (shv id)/\Below w.heap.size w w':=by
 refine id_cases (P:=fun id=>Calls Tryz.prog 159 #[.int .i64 id] w fun e w'=>e=.returned (shv id)/\Below w.heap.size w w') id ?_ ?_ ?_ ?_ ?_ ?_ ?_ ?_ ?_ ?_ ?_ ?_ ?_ ?_ ?_ ?_ ?_ ?_ ?_ ?_ ?_ ?_ ?_ ?_ ?_ ?_ ?_ ?none
 case none =>
  intro n1 n2 n3 n8 n9 n11 n17 n18 n19 n21 n22 n23 n24 n25 n26 n28 n31 n33 n34 n35 n36 n37 n38 n39 n40 n41 n42
  rw[shv_none id (kd_none id n1 n2 n3 n8 n9 n11 n17 n18 n19 n21 n22 n23 n24 n25 n26 n28 n31 n33 n34 n35 n36 n37 n38 n39 n40 n41 n42) (lst_none id n11 n33 n35 n39)]
  have b1:(id == 1)=false:=beq_eq_false_iff_ne.2 n1
  have b2:(id == 2)=false:=beq_eq_false_iff_ne.2 n2
  have b3:(id == 3)=false:=beq_eq_false_iff_ne.2 n3
  have b8:(id == 8)=false:=beq_eq_false_iff_ne.2 n8
  have b9:(id == 9)=false:=beq_eq_false_iff_ne.2 n9
  have b11:(id == 11)=false:=beq_eq_false_iff_ne.2 n11
  have b17:(id == 17)=false:=beq_eq_false_iff_ne.2 n17
  have b18:(id == 18)=false:=beq_eq_false_iff_ne.2 n18
  have b19:(id == 19)=false:=beq_eq_false_iff_ne.2 n19
  have b21:(id == 21)=false:=beq_eq_false_iff_ne.2 n21
  have b22:(id == 22)=false:=beq_eq_false_iff_ne.2 n22
  have b23:(id == 23)=false:=beq_eq_false_iff_ne.2 n23
  have b24:(id == 24)=false:=beq_eq_false_iff_ne.2 n24
  have b25:(id == 25)=false:=beq_eq_false_iff_ne.2 n25
  have b26:(id == 26)=false:=beq_eq_false_iff_ne.2 n26
  have b28:(id == 28)=false:=beq_eq_false_iff_ne.2 n28
  have b31:(id == 31)=false:=beq_eq_false_iff_ne.2 n31
  have b33:(id == 33)=false:=beq_eq_false_iff_ne.2 n33
  have b34:(id == 34)=false:=beq_eq_false_iff_ne.2 n34
  have b35:(id == 35)=false:=beq_eq_false_iff_ne.2 n35
  have b36:(id == 36)=false:=beq_eq_false_iff_ne.2 n36
  have b37:(id == 37)=false:=beq_eq_false_iff_ne.2 n37
  have b38:(id == 38)=false:=beq_eq_false_iff_ne.2 n38
  have b39:(id == 39)=false:=beq_eq_false_iff_ne.2 n39
  have b40:(id == 40)=false:=beq_eq_false_iff_ne.2 n40
  have b41:(id == 41)=false:=beq_eq_false_iff_ne.2 n41
  have b42:(id == 42)=false:=beq_eq_false_iff_ne.2 n42
  clear n1 n2 n3 n8 n9 n11 n17 n18 n19 n21 n22 n23 n24 n25 n26 n28 n31 n33 n34 n35 n36 n37 n38 n39 n40 n41 n42
  go_enter Tryz.func159,Tryz.ntmps159
  go_wp2
  go_returns
  refine⟨?_,?_⟩
  ·rfl
  ·go_grown
 all_goals
  go_enter Tryz.func159,Tryz.ntmps159
  go_wp2
  go_returns
  refine⟨?_,?_⟩
  ·kernel_rfl
  ·go_grown
end Go.Proofs.YtpheelbbpiieiaaGreatDoor
