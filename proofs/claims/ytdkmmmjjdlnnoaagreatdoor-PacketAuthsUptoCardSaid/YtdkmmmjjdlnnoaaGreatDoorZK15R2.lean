/- Proved here: helpers, one text behind the other. -/
import Derived.Test.YtdkmmmjjdlnnoaaGreatDoorZC44
import Derived.Test.YtdkmmmjjdlnnoaaGreatDoorZK15R1
namespace Go.Proofs.YtdkmmmjjdlnnoaaGreatDoor.K.B
open Go.RowKit
open Go.Proofs.YtdkmmmjjdlnnoaaGreatDoor.K
set_option maxRecDepth 100000
theorem back_14 {P:Pa} {l:List Int} (k:Int) (hkk:k=14\/k=15) (hk:P.kind=k) (h:eb P=some l) (hr:Rng l):ET (body? (pa0 k false 0 false)) l P:=by
 unfold eb at h
 rw[if_neg (by omega),if_neg (by omega),if_neg (by omega),if_neg (by omega),if_neg (by omega),if_neg (by omega),if_neg (by omega),if_pos (by omega)]at h
 obtain⟨h1,he⟩:=must_inv h
 obtain⟨ys,rfl,hz⟩:=reason_back (show sReason P.code P.kind P.props []=some l from h1) hr
 rw[hk]at hz
 obtain⟨⟨e1,e2,e3,e4⟩,⟨e5,e6,e7,e8⟩,⟨e9,e10,e11⟩,e12,e13,e14,e15,e16,e17,e18⟩:=emp_inv he
 obtain⟨kind,dup,qos,retain,topic,id,payload,props,client,clean,keep,wills,user,pass,code,session,subs,filters,codes⟩:=P
 obtain rfl:dup=false:=e1
 obtain rfl:qos=0:=e5
 obtain rfl:retain=false:=e2
 obtain rfl:topic=⟨#[]⟩:=no_text e9
 obtain rfl:id=0:=e6
 obtain rfl:payload=⟨#[]⟩:=no_text e10
 obtain rfl:client=⟨#[]⟩:=no_text e11
 obtain rfl:clean=false:=e3
 obtain rfl:keep=0:=e7
 obtain rfl:wills=[]:=no_list e13
 obtain rfl:user=[]:=no_list e14
 obtain rfl:pass=[]:=no_list e15
 obtain rfl:session=false:=e4
 obtain rfl:subs=[]:=no_list e16
 obtain rfl:filters=[]:=no_list e17
 obtain rfl:codes=[]:=no_list e18
 obtain rfl:kind=k:=hk
 dsimp only at *
 have e:body? (pa0 kind false 0 false)=bindR (reason? kind) fun r=>pureR { (pa0 kind false 0 false)with code:=r.1,props:=r.2 }:=by
  unfold body?
  have e0:(pa0 kind false 0 false).kind=kind:=rfl
  rw[e0,if_neg (by omega),if_neg (by omega),if_neg (by omega),if_neg (by omega),if_neg (by omega),if_neg (by omega),if_neg (by omega),if_pos (by omega)]
  all_goals rfl
 rw[e]
 exact hz.last _ rfl
end Go.Proofs.YtdkmmmjjdlnnoaaGreatDoor.K.B
