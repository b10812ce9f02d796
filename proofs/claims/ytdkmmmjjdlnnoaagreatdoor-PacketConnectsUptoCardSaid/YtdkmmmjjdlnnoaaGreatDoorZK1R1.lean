/- Proved here: helpers, one text behind the other. -/
import Derived.Test.YtdkmmmjjdlnnoaaGreatDoorProg
import Derived.Test.YtdkmmmjjdlnnoaaGreatDoorZC16
import Derived.Test.YtdkmmmjjdlnnoaaGreatDoorZC5
import Derived.Test.YtdkmmmjjdlnnoaaGreatDoorZC11
namespace Go.Proofs.YtdkmmmjjdlnnoaaGreatDoor.K
open Go.RowKit
set_option maxRecDepth 100000
theorem two_good (R:Nat) (bv:Value) (l:List Int) (w0 w:World) (h:Rdr w R bv .nilIface) (hb:Byt w0 bv l) (hw:Below w0.heap.size w0 w) (hR:w0.heap.size<=R):Calls Tryz.prog 135 #[.pointer (some ⟨R,0,none⟩)] w (IntRes w0 R 65535 (two? l) w):=by
 have hr:=hb.range
 have HX:=zh (one_good R bv l w0 w h hb hw hR)
 have HW:=zh hw
 clear h hb hw
 go_enter Tryz.func135,Tryz.ntmps135
 go_wp2_with fail
 refine (uh HX).mono ?_
 rintro e w1 (⟨x,l1,bv1,hl,rfl,hb1,hr1,hx1⟩ | ⟨hl,x,l1,bv1,n,rfl,hx,hb1,hr1,hx1⟩)
 ·obtain rfl:l=x :: l1:=by
   cases l with
   | nil=>cases hl
   | cons a t=>simp[one?]at hl;obtain⟨rfl,rfl⟩:=hl;rfl
  have hx0:=hr 0
  have hy0:=hr 1
  simp only[List.getD_cons_zero]at hx0
  have HY:=zh (one_good R bv1 l1 w0 w1 hr1 hb1 (hx1.keep (uh HW) hR) hR)
  have H1:=zh hx1
  clear hr hx1 hr1 hb1 hl
  go_wp2_with fail
  refine (uh HY).mono ?_
  rintro e w2 (⟨y,l2,bv2,hl,rfl,hb2,hr2,hx2⟩ | ⟨hl,y,l2,bv2,n,rfl,hy,hb2,hr2,hx2⟩)
  ·obtain rfl:l1=y :: l2:=by
    cases l1 with
    | nil=>cases hl
    | cons a t=>simp[one?]at hl;obtain⟨rfl,rfl⟩:=hl;rfl
   have hy1:0<=y/\y<=255:=by simpa using hy0
   have e1:=K.or_256 x y hx0.1 (by omega) hy1.1 hy1.2
   have H2:=zh hb2
   have H3:=zh hr2
   have H4:=zh hx2
   clear hl hb2 hr2 hx2 hy0
   go_wp2
   go_ret
   exact .inl ⟨x * 256+y,l2,bv2,rfl,rfl,uh H2,uh H3,(uh H1).trans (uh H4)⟩
  ·obtain rfl:l1=[]:=by cases l1 with | nil=>rfl | cons a t=>cases hl
   have e1:=K.or_256 x y hx0.1 (by omega) hy.1 (by omega)
   have H2:=zh hb2
   have H3:=zh hr2
   have H4:=zh hx2
   clear hl hb2 hr2 hx2 hy0
   go_wp2
   go_ret
   exact .inr ⟨rfl,x * 256+y,l2,bv2,n,rfl,by omega,uh H2,uh H3,(uh H1).trans (uh H4)⟩
 ·obtain rfl:l=[]:=by cases l with | nil=>rfl | cons a t=>cases hl
  have HY:=zh (one_bad R bv1 _ _ l1 w0 w1 hr1 hb1 (hx1.keep (uh HW) hR) hR)
  have H1:=zh hx1
  clear hr hx1 hr1 hb1 hl
  go_wp2_with fail
  refine (uh HY).mono ?_
  rintro e w2 ⟨y,l2,bv2,rfl,hy,hb2,hr2,hx2⟩
  have e1:=K.or_256 x y hx.1 (by omega) hy.1 (by omega)
  have H2:=zh hb2
  have H3:=zh hr2
  have H4:=zh hx2
  clear hb2 hr2 hx2
  go_wp2
  go_ret
  exact .inr ⟨rfl,x * 256+y,l2,bv2,n,rfl,by omega,uh H2,uh H3,(uh H1).trans (uh H4)⟩
theorem two_bad (R:Nat) (bv:Value) (t:TypeId) (z:Value) (l:List Int) (w0 w:World) (h:Rdr w R bv (.iface t z)) (hb:Byt w0 bv l) (hw:Below w0.heap.size w0 w) (hR:w0.heap.size<=R):Calls Tryz.prog 135 #[.pointer (some ⟨R,0,none⟩)] w (IntBad w0 R 65535 t z w):=by
 have HX:=zh (one_bad R bv t z l w0 w h hb hw hR)
 have HW:=zh hw
 clear h hb hw
 go_enter Tryz.func135,Tryz.ntmps135
 go_wp2_with fail
 refine (uh HX).mono ?_
 rintro e w1 ⟨x,l1,bv1,rfl,hx,hb1,hr1,hx1⟩
 have HY:=zh (one_bad R bv1 _ _ l1 w0 w1 hr1 hb1 (hx1.keep (uh HW) hR) hR)
 have H1:=zh hx1
 clear hx1 hr1 hb1
 go_wp2_with fail
 refine (uh HY).mono ?_
 rintro e w2 ⟨y,l2,bv2,rfl,hy,hb2,hr2,hx2⟩
 have e1:=K.or_256 x y hx.1 (by omega) hy.1 (by omega)
 have H2:=zh hb2
 have H3:=zh hr2
 have H4:=zh hx2
 clear hb2 hr2 hx2
 go_wp2
 go_ret
 exact⟨x * 256+y,l2,bv2,rfl,by omega,uh H2,uh H3,(uh H1).trans (uh H4)⟩
end Go.Proofs.YtdkmmmjjdlnnoaaGreatDoor.K
