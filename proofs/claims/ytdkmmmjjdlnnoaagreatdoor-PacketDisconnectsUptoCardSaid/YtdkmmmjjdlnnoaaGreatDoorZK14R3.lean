/- Proved here: helpers, one text behind the other. -/
import Derived.Test.YtdkmmmjjdlnnoaaGreatDoorZC45
import Derived.Test.YtdkmmmjjdlnnoaaGreatDoorZC39
import Derived.Test.YtdkmmmjjdlnnoaaGreatDoorZC44
import Derived.Test.YtdkmmmjjdlnnoaaGreatDoorZK14R1
import Derived.Test.YtdkmmmjjdlnnoaaGreatDoorZK14R2
namespace Go.Proofs.YtdkmmmjjdlnnoaaGreatDoor.K.W
open Go.RowKit
open Go.Proofs.YtdkmmmjjdlnnoaaGreatDoor.K
set_option maxRecDepth 100000
theorem bpa_oth {P:Pa} (hf:(fkA P).2=true) (h3:P.kind≠3):bpa (fb P.kind (fkA P).1)=pa0 P.kind false 0 false:=by
 have b1:=(first_any hf).1
 unfold bpa
 rw[if_neg (by rw[b1];exact h3),b1]
theorem pkat_oth {b:Int} (h3:b / 16≠3):bpk b=pk0 (b / 16) false 0 false/\bpa b=pa0 (b / 16) false 0 false:=by
 unfold bpk bpa
 rw[if_neg h3,if_neg h3]
 exact⟨rfl,rfl⟩
end Go.Proofs.YtdkmmmjjdlnnoaaGreatDoor.K.W
namespace Go.Proofs.YtdkmmmjjdlnnoaaGreatDoor.K.W
open Go.RowKit
open Go.Proofs.YtdkmmmjjdlnnoaaGreatDoor.K
set_option maxRecDepth 100000
theorem kindok_14:KindOk 14 where
 enc:=fun hR hB hk=>enc_reason hR hB (by omega)
 ebk:=fun hk _=>eb_14 (by omega)
 may:=fun {w q P} hR hM hk=>by
  unfold mayA
  rw[if_neg (by omega),if_neg (by omega),if_neg (by omega),if_neg (by omega),if_neg (by omega),if_neg (by omega),if_neg (by omega),if_neg (by omega),if_pos (by omega)]
  exact mayA_reason hR hM (by omega)
 gb:=fun {w q P} hR hM hpy hk=>by
  obtain⟨h0,h1,h2,h3,h4,h5,h6,h7,h8,h9,h10,h11⟩:=hR.sc
  have k4:P.kind=14\/P.kind=15:=by omega
  unfold mayA at hM
  unfold gbd
  rw[if_neg (by omega),if_neg (by omega),if_neg (by omega),if_neg (by omega),if_neg (by omega),if_neg (by omega),if_neg (by omega),if_neg (by omega),if_pos (by omega)]at hM
  rw[if_neg (by omega),if_neg (by omega),if_neg (by omega),if_neg (by omega),if_neg (by omega),if_pos (by omega)]
  obtain⟨-,-,hok⟩:=tlB_ok hM
  rw[<- h0]at hok k4
  rw[<- h10]
  exact gb_reason q P.props w hR.props hok k4
 pk:=fun b h0 h1 hk hb R st w0 w hS hp hl=>by
  obtain⟨e1,e2⟩:=pkat_oth (b:=b) (by omega)
  rw[e1,hk]at hp
  rw[e2,hk]
  exact packet_k14 R st w0 w hS hp hl
 bd:=fun b h0 h1 hk hb R A st w0 w hS hp hA hA0 hl=>by
  obtain⟨e1,e2⟩:=pkat_oth (b:=b) (by omega)
  rw[e1,hk]at hp
  rw[e2,hk]
  exact body_14 R A _ _ _ st w0 w hS hp hA hA0
 back:=fun {P l} hk he hf hr=>by
  rw[bpa_oth hf (by omega)]
  exact B.pk_et (B.back_14 P.kind (by omega) rfl he hr)
end Go.Proofs.YtdkmmmjjdlnnoaaGreatDoor.K.W
