/- Proved here: helpers, one text behind the other. -/
import Derived.Test.YtdkmmmjjdlnnoaaGreatDoorZC45
import Derived.Test.YtdkmmmjjdlnnoaaGreatDoorZK3R2
import Derived.Test.YtdkmmmjjdlnnoaaGreatDoorZK3R3
import Derived.Test.YtdkmmmjjdlnnoaaGreatDoorZK3R4
namespace Go.Proofs.YtdkmmmjjdlnnoaaGreatDoor.K.W
open Go.RowKit
open Go.Proofs.YtdkmmmjjdlnnoaaGreatDoor.K
set_option maxRecDepth 100000
theorem kindok_3:KindOk 3 where
 enc:=fun {w q P} hR hB hk=>by
  by_cases hq:0 < P.qos
  ·exact enc_pub_pos hR hB hk hq
  ·exact enc_pub_zero hR hB hk hq
 ebk:=fun {P} hk hf=>by
  unfold fkA at hf
  rw[if_pos hk]at hf
  exact eb_3 hk hf
 may:=fun {w q P} hR hM hk=>by
  unfold mayA
  rw[if_neg (by omega),if_neg (by omega),if_pos (by omega)]
  exact mayA_pub hR hM hk
 gb:=fun {w q P} hR hM hpy hk=>by
  obtain⟨h0,h1,h2,h3,h4,h5,h6,h7,h8,h9,h10,h11⟩:=hR.sc
  have k4:P.kind=3:=by omega
  unfold mayA at hM
  unfold gbd
  rw[if_neg (by omega),if_neg (by omega),if_pos (by omega)]at hM
  rw[if_neg (by omega),if_neg (by omega),if_pos (by omega)]
  obtain⟨hc,-,hok⟩:=tlB_ok hM
  unfold pubO at hc
  simp only[Bool.and_eq_true]at hc
  rw[<- h0]at hok k4
  rw[<- h2,<- h4,<- h5,<- h6]
  by_cases hq:0 < q.qos
  ·rw[if_pos hq]
   exact gb_pub_pos q P.props w hR.props hok (by rw[h4];exact hc.1) (by rw[h6];exact hpy) hq k4
  ·rw[if_neg hq]
   exact gb_pub_zero q P.props w hR.props hok (by rw[h4];exact hc.1) (by rw[h6];exact hpy) hq k4
 pk:=fun b h0 h1 hk hb R st w0 w hS hp hl=>by
  unfold bpk at hp
  unfold bpa
  rw[if_pos hk]at hp |-
  exact packet_k3 R _ _ _ st w0 w hS hp hl
 bd:=fun b h0 h1 hk hb R A st w0 w hS hp hA hA0 hl=>by
  have hq:b / 2 % 4<=2:=byte_cases (P:=fun b=>b / 16=3->bok b=true->b / 2 % 4<=2) (by decide +kernel) b h0 h1 hk hb
  unfold bpk at hp
  unfold bpa
  rw[if_pos hk]at hp |-
  exact body_3 R A _ _ _ st w0 w hS hp hA hA0 (by omega)
 back:=fun {P l} hk he hf hr=>by
  have e:fkA P=(pfl P.dup P.qos P.retain,pok P.dup P.qos):=by unfold fkA;rw[if_pos hk]
  rw[e]at hf |-
  dsimp only at hf |-
  rw[hk]
  obtain⟨b1,b2,b3,b4,b5,b6⟩:=B.first_pub P.dup P.retain P.qos hf
  unfold bpa
  rw[if_pos b1,b2,b3,b4]
  exact B.pk_et (B.back_3 hk he hr)
end Go.Proofs.YtdkmmmjjdlnnoaaGreatDoor.K.W
