/- Proved here: helpers, one text behind the other. -/
import Derived.Test.YtdkmmmjjdlnnoaaGreatDoorZC12
namespace Go.Proofs.YtdkmmmjjdlnnoaaGreatDoor
open Go.RowKit
theorem conv_byt (w:World) (v:Value) (l:List Int) (h:Byt w v l):(convert 33 9 v).run Tryz.prog w=.ok (.string (bs l)) w:=by
 obtain⟨ao,cap,rfl,hlen,hr,hcase⟩:=h
 rcases hcase with rfl | ⟨b,off,rfl,hc⟩
 ·cases ao with
  | none =>
   rw[run_convert_bytes_string w 33 9 5 none _ cap Tryz.underlying33 Tryz.underlying5 Tryz.underlying9]
   rfl
  | some a =>
   exact run_convert_bytes_back (P:=Tryz.prog) w 33 9 5 a cap [] Tryz.underlying33 Tryz.underlying5 Tryz.underlying9 (fun j hj=>by simp at hj)
 ·exact conv_bytes w b off cap l hr hc
end Go.Proofs.YtdkmmmjjdlnnoaaGreatDoor
