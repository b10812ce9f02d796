/- Proved here: helpers, one text behind the other. -/
import Derived.Handy
import Derived.Test.YtpheelbbpiieiaaGreatDoorZC11
namespace Go.Proofs.YtpheelbbpiieiaaGreatDoor
open Go.RowKit
set_option maxRecDepth 100000
def be (k:Int) (l:List Int):Int:=if k=1 then l.getD 0 0 else if k=2 then l.getD 0 0 * 256+l.getD 1 0 else ((l.getD 0 0 * 256+l.getD 1 0) * 256+l.getD 2 0) * 256+l.getD 3 0
theorem or_256 (x y:Int) (hx0:0<=x) (hx1:x < 16777216) (hy0:0<=y) (hy1:y<=255):bits .or .i64 (x * 256) y=x * 256+y:=V.or_hi 8 _ _ (by omega) (by omega) hy0 (by omega) (by omega) (by omega)
theorem gnum_short (ao:Option Addr) (len cap:Nat) (k:Int) (w:World) (hl:(len:Int) < k):Calls Tryz.prog 169 #[.slice ao len cap,.int .i64 k] w fun e w'=>e=.returned (.tuple #[.int .i64 0,.int .i64 0,.iface 63 (.int .i64 3)])/\w'=w:=by
 go_enter Tryz.func169,Tryz.ntmps169
 go_wp2
 go_ret3
 exact⟨rfl,rfl⟩
theorem gnum_1 (b off len cap:Nat) (x0:Int) (w:World) (hl:1<=len) (hcap:len<=cap) (hcm:cap<=maxLen) (c0:w.cell? ⟨b,off,none⟩=some (.int .u8 x0)) (r0:0<=x0/\x0<=255) :
  Calls Tryz.prog 169 #[.slice (some ⟨b,off,none⟩) len cap,.int .i64 1] w fun e w'=>e=.returned (.tuple #[.int .i64 x0,.int .i64 1,.nilIface])/\Below w.heap.size w w':=by
 unfold maxLen at hcm
 have e0:bits .or .i64 0 x0=x0:=V.or_zero x0 r0.1 (by omega)
 go_enter Tryz.func169,Tryz.ntmps169
 go_wp2
 refine wp_loop_rounds 2 ?_
 rw[rounds_succ]
 go_wp2
 rw[rounds_succ]
 go_wp2
 go_ret3
 exact⟨rfl,by go_grown⟩
theorem gnum_2 (b off len cap:Nat) (x0 x1:Int) (w:World) (hl:2<=len) (hcap:len<=cap) (hcm:cap<=maxLen) (c0:w.cell? ⟨b,off,none⟩=some (.int .u8 x0)) (c1:w.cell? ⟨b,off+1,none⟩=some (.int .u8 x1)) (r0:0<=x0/\x0<=255) (r1:0<=x1/\x1<=255) :
  Calls Tryz.prog 169 #[.slice (some ⟨b,off,none⟩) len cap,.int .i64 2] w fun e w'=>e=.returned (.tuple #[.int .i64 (x0 * 256+x1),.int .i64 2,.nilIface])/\Below w.heap.size w w':=by
 unfold maxLen at hcm
 have e0:bits .or .i64 0 x0=x0:=V.or_zero x0 r0.1 (by omega)
 have e1:=or_256 x0 x1 r0.1 (by omega) r1.1 r1.2
 go_enter Tryz.func169,Tryz.ntmps169
 go_wp2
 refine wp_loop_rounds 3 ?_
 rw[rounds_succ]
 go_wp2
 rw[rounds_succ]
 go_wp2
 rw[rounds_succ]
 go_wp2
 go_ret3
 exact⟨rfl,by go_grown⟩
theorem gnum_4 (b off len cap:Nat) (x0 x1 x2 x3:Int) (w:World) (hl:4<=len) (hcap:len<=cap) (hcm:cap<=maxLen) (c0:w.cell? ⟨b,off,none⟩=some (.int .u8 x0)) (c1:w.cell? ⟨b,off+1,none⟩=some (.int .u8 x1)) (c2:w.cell? ⟨b,off+2,none⟩=some (.int .u8 x2)) (c3:w.cell? ⟨b,off+3,none⟩=some (.int .u8 x3)) (r0:0<=x0/\x0<=255) (r1:0<=x1/\x1<=255) (r2:0<=x2/\x2<=255) (r3:0<=x3/\x3<=255) :
  Calls Tryz.prog 169 #[.slice (some ⟨b,off,none⟩) len cap,.int .i64 4] w fun e w'=>e=.returned (.tuple #[.int .i64 (((x0 * 256+x1) * 256+x2) * 256+x3),.int .i64 4,.nilIface])/\Below w.heap.size w w':=by
 unfold maxLen at hcm
 have e0:bits .or .i64 0 x0=x0:=V.or_zero x0 r0.1 (by omega)
 have e1:=or_256 x0 x1 r0.1 (by omega) r1.1 r1.2
 have e2:=or_256 (x0 * 256+x1) x2 (by omega) (by omega) r2.1 r2.2
 have e3:=or_256 ((x0 * 256+x1) * 256+x2) x3 (by omega) (by omega) r3.1 r3.2
 go_enter Tryz.func169,Tryz.ntmps169
 go_wp2
 refine wp_loop_rounds 5 ?_
 rw[rounds_succ]
 go_wp2
 rw[rounds_succ]
 go_wp2
 rw[rounds_succ]
 go_wp2
 rw[rounds_succ]
 go_wp2
 rw[rounds_succ]
 go_wp2
 go_ret3
 exact⟨rfl,by go_grown⟩
end Go.Proofs.YtpheelbbpiieiaaGreatDoor
