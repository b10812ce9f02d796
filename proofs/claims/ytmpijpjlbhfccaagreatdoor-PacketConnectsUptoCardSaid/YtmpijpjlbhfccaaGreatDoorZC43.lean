/- Helpers of the proof. -/
import Derived.Test.YtmpijpjlbhfccaaGreatDoorZC33
import Derived.Test.YtmpijpjlbhfccaaGreatDoorZC42
set_option maxHeartbeats 20000000
namespace Go.Proofs.YtmpijpjlbhfccaaGreatDoor.K.W
open Go.RowKit
open Go.Proofs.YtmpijpjlbhfccaaGreatDoor.K
set_option maxRecDepth 100000
structure Sm (P:Pa):Prop where
 user:P.user.length<=8000
 pass:P.pass.length<=8000
 filters:P.filters.length<=8000
 codes:P.codes.length<=80000
def Hs (c:Bool) (P:Pa):Prop:=c=false->Sm P
def HvPost (P:Pa) (w:World) (e:Ending) (w':World):Prop:=∃ bo:Bool,e=.returned (.bool bo)/\Hid (Hs bo P)/\Below w.heap.size w w'
theorem hv_any (q:Pkv) (P:Pa) (w:World) (hR:RPk w q P) (hU:Ub P):Calls Tryz.prog 6 #[q.val] w (HvPost P w):=by
 have HW:Hid (∀ W,Below w.heap.size w W->Calls Tryz.prog 21 #[.agg q.cells.toArray] W (WtPost P W)):=fun W hW=>wt_any q P W (hR.below hW) hU
 have HBA:Hid (Below w.heap.size w (w.alloc (.cells q.cells.toArray 31))):=bal _ _
 have HP:=zh (pk_new w q)
 have m7:q.props.n<=1048576:=by rw[hR.cnt.ns.1];exact hU.props.1
 clear hR hU
 go_enter Tryz.func6,Tryz.ntmps6
 go_upto_region 1 with fail
 change Code.wp _ _ _ _ (w.alloc (.cells q.cells.toArray 31))
 generalize w.alloc (.cells q.cells.toArray 31)=wa at HBA HP |-
 go_step
 refine wpList_load_mid rfl 31 _ rfl w.heap.size 0 rfl q.cells _ (uh HP).range Tryz.underlying31 rfl packet_size ?_
 simp only[sp]
 go_wp2_with fail
 refine ((uh HW) wa (uh HBA)).mono ?_
 rintro e w2 ⟨N,rfl,hN1,hN2,hb2⟩
 have c7:=((uh HP).below hb2).props
 have HB2:Hid (Below w.heap.size w w2):=bnk (uh HBA) hb2
 have HSM:Hid (¬ 80000<N->Sm P):=fun h=>⟨by omega,by omega,by omega,by omega⟩
 clear hN1 hb2 HP
 by_cases h8:80000<N
 ·go_wp2
  go_ret
  exact⟨_,rfl,(fun h=>by cases h),uh HB2⟩
 ·by_cases h2:200<q.props.n
  ·go_wp2
   go_ret
   exact⟨_,rfl,(fun _=>(uh HSM) h8),uh HB2⟩
  ·go_wp2
   go_ret
   exact⟨_,rfl,(fun _=>(uh HSM) h8),uh HB2⟩
theorem small_of {l:List Pr} (h:UbP l):Go.Proofs.YtmpijpjlbhfccaaGreatDoor.Small l:=fun k hk=>by have:=h.2 k hk;omega
theorem big_of {P:Pa} (h:Ok P) (s:Sm P):Big P:=by
 have hu:=h.ub
 refine⟨h.nums,⟨by have:=hu.texts;omega,by have:=hu.texts;omega,by have:=hu.texts;omega⟩,⟨by have:=h.props;omega,by have:=h.wills;omega,by have:=s.user;omega,by have:=s.pass;omega,by have:=h.subs;omega,by have:=s.filters;omega,by have:=s.codes;omega⟩,small_of hu.props,fun k hk=>?_,fun k hk=>by have:=hu.user.2 k hk;omega,fun k hk=>by have:=hu.subs.2 k hk;omega,fun k hk=>by have:=hu.filters.2 k hk;omega,h.codes⟩
 obtain⟨h1,h2,h3⟩:=hu.wills.2 k hk
 exact⟨by omega,by have:=h.wprops k hk;omega,small_of h3⟩
theorem mid_of {P:Pa} (h:Ok P) (s:Sm P):Mid P:=by
 have hu:=h.ub
 refine⟨big_of h s,by have:=h.props;omega,fun k hk=>?_,fun k hk=>by have:=hu.pass.2 k hk;omega⟩
 obtain⟨h1,h2,h3⟩:=hu.wills.2 k hk
 exact⟨by have:=h.wprops k hk;omega,by omega⟩
def eN (P:Pa):Int:=if mayA P=true then (if (pby P).length<=65536 then 0 else 2) else 1
def eB (P:Pa):List Int:=if mayA P=true/\(pby P).length<=65536 then pby P else []
theorem nil_byt (w:World):Byt w (.slice none 0 0) []:=⟨none,0,rfl,⟨by simp,by simp⟩,by intro j;simp,.inl rfl⟩
theorem ErP.xx {w:World} {E:Value} {n:Int} (h:ErP w E n):ErrX w E n:=by
 obtain⟨x,d,_,hd,he⟩:=h
 exact .inr ⟨d,hd,he⟩
end Go.Proofs.YtmpijpjlbhfccaaGreatDoor.K.W
