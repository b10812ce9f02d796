/- Proved here: helpers, one text behind the other. -/
import Derived.Test.YtpheelbbpiieiaaGreatDoorZC36
import Derived.Test.YtpheelbbpiieiaaGreatDoorZC21
import Derived.Test.YtpheelbbpiieiaaGreatDoorZC18
import Derived.Test.YtpheelbbpiieiaaGreatDoorZC27
import Derived.Test.YtpheelbbpiieiaaGreatDoorZC28
import Derived.Test.YtpheelbbpiieiaaGreatDoorZC33
set_option maxHeartbeats 20000000
namespace Go.Proofs.YtpheelbbpiieiaaGreatDoor.K
open Go.RowKit
set_option maxRecDepth 100000
def SFg (B:Nat) (T:Nat->TypeId->Prop) (w w':World) (g:Nat) (e:TypeId):Prop:=SF B T w w'/\B<=g/\T g e/\∃ cur,w'.heap[g]?=some (Obj.cells cur e (0,0))
theorem SFg.set {B:Nat} {T:Nat->TypeId->Prop} {w w':World} {g:Nat} {e:TypeId} (h:SFg B T w w' g e) (j:Nat) (u:Value):SFg B T w (w'.setCell ⟨g,j,none⟩ u) g e:=by
 obtain⟨h1,h2,h3,cur,h4⟩:=h
 refine⟨h1.set g j u h2 cur e h4 h3,h2,h3,cur.setIfInBounds j u,?_⟩
 unfold World.setCell
 simp[Array.getElem?_modify,h4]
theorem numbers_sp (B:Nat) (v:Value) (n:Nat) (w:World) (hB:B<=w.heap.size) (hn:n<=1000000) (h:OwnE w B 3 1 v n):Calls Tryz.prog 42 #[v] w fun e w'=>e=.returned (.tuple #[])/\SF B (fun _ t=>t=3) w w':=by
 obtain⟨i0,hi,hz0,hz1,hz2⟩:=info_parts infoInt
 have hv:(v=.slice none 0 0/\n=0)\/∃ g cap,v=.slice (some ⟨g,0,none⟩) n cap:=by
  obtain⟨xs,h⟩:=h
  rcases h.2 with h1 | ⟨g,cap,_,h1,_⟩
  ·exact .inl h1
  ·exact .inr ⟨g,cap,h1⟩
 rcases hv with⟨rfl,rfl⟩ | ⟨g,cap,rfl⟩
 ·clear h
  go_enter Tryz.func42,Tryz.ntmps42
  go_wp2
  refine wp_loop_rounds 1 ?_
  rw[rounds_succ]
  have HAPP:Hid (∀ ty,∃ v' w',(Builtin.append_ #[27,27] ty #[.slice none 0 0,.slice (some ⟨w.heap.size,0,none⟩) 1 1]).run Tryz.prog (w.alloc (.cells #[.int .i64 5] 3))=.ok v' w'/\SF B (fun _ t=>t=3) w w'):=fun ty=>by
   obtain⟨v',w',h1,h2⟩:=app_sf (B:=B) (T:=fun _ t=>t=3) (w.alloc (.cells #[.int .i64 5] 3)) 27 ty 3 i0 _ 1 8 Tryz.underlying27 hi hz0 hz1 hz2 rfl (by decide) (.slice none 0 0) 0 ⟨[],World.ownsRow_nil _ _ _ _⟩ ⟨w.heap.size,0,none⟩ 1 [.int .i64 5] rfl (one_cell _ _ _) (one_one _ _) hn (by decide) (by simp;omega) (fun _ _=>rfl)
   exact⟨v',w',h1,(SF.bel (bal _ _) hB).trans h2⟩
  go_wp2_with (first
   | (at_builtin;refine wpList_append_run _ (Z:=fun _ w'=>SF B (fun _ t=>t=3) w w') rfl _ _ 27 27 rfl _ _ rfl rfl ((uh HAPP) _) ?_)
   | go_in)
  intro v' w1 hsf
  have HSF:=zh hsf
  clear hsf HAPP
  go_wp2
  go_end0
  exact⟨rfl,uh HSF⟩
 ·have HO:=zh h
  have hgb:=h.blk
  clear h
  go_enter Tryz.func42,Tryz.ntmps42
  go_wp2
  go_loopw [2] (fun i wr=>∃ k:Nat,k<=n/\i=.int .i64 k/\Hid (SF B (fun _ t=>t=3) w wr)) (fun i _=>n - (intOf i).toNat)
  case atStart=>exact⟨0,Nat.zero_le _,rfl,SF.refl _ _ _⟩
  case round =>
   obtain⟨k,hk,rfl,HSF⟩:=hrel
   have HOr:=zh ((uh HO).sf (uh HSF))
   by_cases hlt:k < n
   ·have HG:Hid (SFg B (fun _ t=>t=3) w wr g 3):=⟨uh HSF,(uh HOr).blk.1,rfl,(uh HOr).blk.2⟩
    obtain⟨⟨v0,c0⟩,f0⟩:=(uh HOr).cell (k) (by omega)
    go_wp2
    go_roundw
    case rel=>exact⟨k+1,by omega,by go_num,((uh HG).set _ _).1⟩
    case measure=>simp[intOf];omega
   ·have HAPP:Hid (∀ ty,∃ v' w',(Builtin.append_ #[27,27] ty #[.slice (some ⟨g,0,none⟩) n cap,.slice (some ⟨wr.heap.size,0,none⟩) 1 1]).run Tryz.prog (wr.alloc (.cells #[.int .i64 5] 3))=.ok v' w'/\SF B (fun _ t=>t=3) w w'):=fun ty=>by
     obtain⟨xs,hx⟩:=uh HOr
     obtain⟨v',w',h1,h2⟩:=app_sf (B:=B) (T:=fun _ t=>t=3) (wr.alloc (.cells #[.int .i64 5] 3)) 27 ty 3 i0 _ 1 8 Tryz.underlying27 hi hz0 hz1 hz2 rfl (by decide) (.slice (some ⟨g,0,none⟩) n cap) n ⟨xs,hx.alloc _⟩ ⟨wr.heap.size,0,none⟩ 1 [.int .i64 5] rfl (one_cell _ _ _) (one_one _ _) hn (by decide) (by have:=(uh HSF).size;simp;omega) (fun _ _=>rfl)
     exact⟨v',w',h1,((uh HSF).trans (SF.bel (bal _ _) (Nat.le_trans hB (uh HSF).size))).trans h2⟩
    clear HOr
    go_wp2_with (first
     | (at_builtin;refine wpList_append_run _ (Z:=fun _ w'=>SF B (fun _ t=>t=3) w w') rfl _ _ 27 27 rfl _ _ rfl rfl ((uh HAPP) _) ?_)
     | go_in)
    intro v' w1 hsf
    have HSF1:=zh hsf
    clear hsf HAPP
    go_wp2
    go_end0
    exact⟨rfl,uh HSF1⟩
theorem strings_sp (B:Nat) (v:Value) (n:Nat) (w:World) (hB:B<=w.heap.size) (hn:n<=1000000) (h:OwnE w B 9 1 v n):Calls Tryz.prog 40 #[v] w fun e w'=>e=.returned (.tuple #[])/\SF B (fun _ t=>t=9) w w':=by
 obtain⟨i0,hi,hz0,hz1,hz2⟩:=info_parts infoStr
 have hv:(v=.slice none 0 0/\n=0)\/∃ g cap,v=.slice (some ⟨g,0,none⟩) n cap:=by
  obtain⟨xs,h⟩:=h
  rcases h.2 with h1 | ⟨g,cap,_,h1,_⟩
  ·exact .inl h1
  ·exact .inr ⟨g,cap,h1⟩
 rcases hv with⟨rfl,rfl⟩ | ⟨g,cap,rfl⟩
 ·clear h
  go_enter Tryz.func40,Tryz.ntmps40
  go_wp2
  refine wp_loop_rounds 1 ?_
  rw[rounds_succ]
  have HAPP:Hid (∀ ty,∃ v' w',(Builtin.append_ #[25,25] ty #[.slice none 0 0,.slice (some ⟨w.heap.size,0,none⟩) 1 1]).run Tryz.prog (w.alloc (.cells #[.string ⟨#[]⟩] 9))=.ok v' w'/\SF B (fun _ t=>t=9) w w'):=fun ty=>by
   obtain⟨v',w',h1,h2⟩:=app_sf (B:=B) (T:=fun _ t=>t=9) (w.alloc (.cells #[.string ⟨#[]⟩] 9)) 25 ty 9 i0 _ 1 16 Tryz.underlying25 hi hz0 hz1 hz2 rfl (by decide) (.slice none 0 0) 0 ⟨[],World.ownsRow_nil _ _ _ _⟩ ⟨w.heap.size,0,none⟩ 1 [.string ⟨#[]⟩] rfl (one_cell _ _ _) (one_str _) hn (by decide) (by simp;omega) (fun _ _=>rfl)
   exact⟨v',w',h1,(SF.bel (bal _ _) hB).trans h2⟩
  go_wp2_with (first
   | (at_builtin;refine wpList_append_run _ (Z:=fun _ w'=>SF B (fun _ t=>t=9) w w') rfl _ _ 25 25 rfl _ _ rfl rfl ((uh HAPP) _) ?_)
   | go_in)
  intro v' w1 hsf
  have HSF:=zh hsf
  clear hsf HAPP
  go_wp2
  go_end0
  exact⟨rfl,uh HSF⟩
 ·have HO:=zh h
  have hgb:=h.blk
  clear h
  go_enter Tryz.func40,Tryz.ntmps40
  go_wp2
  go_loopw [2] (fun i wr=>∃ k:Nat,k<=n/\i=.int .i64 k/\Hid (SF B (fun _ t=>t=9) w wr)) (fun i _=>n - (intOf i).toNat)
  case atStart=>exact⟨0,Nat.zero_le _,rfl,SF.refl _ _ _⟩
  case round =>
   obtain⟨k,hk,rfl,HSF⟩:=hrel
   have HOr:=zh ((uh HO).sf (uh HSF))
   by_cases hlt:k < n
   ·have HG:Hid (SFg B (fun _ t=>t=9) w wr g 9):=⟨uh HSF,(uh HOr).blk.1,rfl,(uh HOr).blk.2⟩
    obtain⟨⟨v0,c0⟩,f0⟩:=(uh HOr).cell (k) (by omega)
    go_wp2
    go_roundw
    case rel=>exact⟨k+1,by omega,by go_num,((uh HG).set _ _).1⟩
    case measure=>simp[intOf];omega
   ·have HAPP:Hid (∀ ty,∃ v' w',(Builtin.append_ #[25,25] ty #[.slice (some ⟨g,0,none⟩) n cap,.slice (some ⟨wr.heap.size,0,none⟩) 1 1]).run Tryz.prog (wr.alloc (.cells #[.string ⟨#[]⟩] 9))=.ok v' w'/\SF B (fun _ t=>t=9) w w'):=fun ty=>by
     obtain⟨xs,hx⟩:=uh HOr
     obtain⟨v',w',h1,h2⟩:=app_sf (B:=B) (T:=fun _ t=>t=9) (wr.alloc (.cells #[.string ⟨#[]⟩] 9)) 25 ty 9 i0 _ 1 16 Tryz.underlying25 hi hz0 hz1 hz2 rfl (by decide) (.slice (some ⟨g,0,none⟩) n cap) n ⟨xs,hx.alloc _⟩ ⟨wr.heap.size,0,none⟩ 1 [.string ⟨#[]⟩] rfl (one_cell _ _ _) (one_str _) hn (by decide) (by have:=(uh HSF).size;simp;omega) (fun _ _=>rfl)
     exact⟨v',w',h1,((uh HSF).trans (SF.bel (bal _ _) (Nat.le_trans hB (uh HSF).size))).trans h2⟩
    clear HOr
    go_wp2_with (first
     | (at_builtin;refine wpList_append_run _ (Z:=fun _ w'=>SF B (fun _ t=>t=9) w w') rfl _ _ 25 25 rfl _ _ rfl rfl ((uh HAPP) _) ?_)
     | go_in)
    intro v' w1 hsf
    have HSF1:=zh hsf
    clear hsf HAPP
    go_wp2
    go_end0
    exact⟨rfl,uh HSF1⟩
theorem props_sp (B:Nat) (v:Value) (n:Nat) (w:World) (hB:B<=w.heap.size) (hn:n<=1000000) (h:OwnE w B 109 4 v n):Calls Tryz.prog 38 #[v] w fun e w'=>e=.returned (.tuple #[])/\SF B (fun _ t=>t=109) w w':=by
 obtain⟨i0,hi,hz0,hz1,hz2⟩:=info_parts Tryz.infoProp
 have hv:(v=.slice none 0 0/\n=0)\/∃ g cap,v=.slice (some ⟨g,0,none⟩) n cap:=by
  obtain⟨xs,h⟩:=h
  rcases h.2 with h1 | ⟨g,cap,_,h1,_⟩
  ·exact .inl h1
  ·exact .inr ⟨g,cap,h1⟩
 rcases hv with⟨rfl,rfl⟩ | ⟨g,cap,rfl⟩
 ·clear h
  go_enter Tryz.func38,Tryz.ntmps38
  go_wp2
  refine wp_loop_rounds 1 ?_
  rw[rounds_succ]
  have HAPP:Hid (∀ ty,∃ v' w',(Builtin.append_ #[23,23] ty #[.slice none 0 0,.slice (some ⟨w.heap.size,0,none⟩) 1 1]).run Tryz.prog (w.alloc (.cells #[.int .i64 0,.int .i64 0,.string ⟨#[]⟩,.string ⟨#[]⟩] 109))=.ok v' w'/\SF B (fun _ t=>t=109) w w'):=fun ty=>by
   obtain⟨v',w',h1,h2⟩:=app_sf (B:=B) (T:=fun _ t=>t=109) (w.alloc (.cells #[.int .i64 0,.int .i64 0,.string ⟨#[]⟩,.string ⟨#[]⟩] 109)) 23 ty 109 i0 _ 4 48 Tryz.underlying23 hi hz0 hz1 hz2 rfl (by decide) (.slice none 0 0) 0 ⟨[],World.ownsRow_nil _ _ _ _⟩ ⟨w.heap.size,0,none⟩ 1 [.int .i64 0,.int .i64 0,.string ⟨#[]⟩,.string ⟨#[]⟩] rfl (four_cell _ _ _ _ _ _) (four_one _ _ _ _) hn (by decide) (by simp;omega) (fun _ _=>rfl)
   exact⟨v',w',h1,(SF.bel (bal _ _) hB).trans h2⟩
  go_wp2_with (first
   | (at_builtin;refine wpList_append_run _ (Z:=fun _ w'=>SF B (fun _ t=>t=109) w w') rfl _ _ 23 23 rfl _ _ rfl rfl ((uh HAPP) _) ?_)
   | go_in)
  intro v' w1 hsf
  have HSF:=zh hsf
  clear hsf HAPP
  go_wp2
  go_end0
  exact⟨rfl,uh HSF⟩
 ·have HO:=zh h
  have hgb:=h.blk
  clear h
  go_enter Tryz.func38,Tryz.ntmps38
  go_wp2
  go_loopw [2] (fun i wr=>∃ k:Nat,k<=n/\i=.int .i64 k/\Hid (SF B (fun _ t=>t=109) w wr)) (fun i _=>n - (intOf i).toNat)
  case atStart=>exact⟨0,Nat.zero_le _,rfl,SF.refl _ _ _⟩
  case round =>
   obtain⟨k,hk,rfl,HSF⟩:=hrel
   have HOr:=zh ((uh HO).sf (uh HSF))
   by_cases hlt:k < n
   ·have HG:Hid (SFg B (fun _ t=>t=109) w wr g 109):=⟨uh HSF,(uh HOr).blk.1,rfl,(uh HOr).blk.2⟩
    obtain⟨⟨v0,c0⟩,f0⟩:=(uh HOr).cell (k * 4) (by omega)
    obtain⟨⟨v1,c1⟩,f1⟩:=(uh HOr).cell (k * 4+1) (by omega)
    obtain⟨⟨v2,c2⟩,f2⟩:=(uh HOr).cell (k * 4+2) (by omega)
    obtain⟨⟨v3,c3⟩,f3⟩:=(uh HOr).cell (k * 4+3) (by omega)
    go_wp2
    go_roundw
    case rel=>exact⟨k+1,by omega,by go_num,(((((uh HG).set _ _).set _ _).set _ _).set _ _).1⟩
    case measure=>simp[intOf];omega
   ·have HAPP:Hid (∀ ty,∃ v' w',(Builtin.append_ #[23,23] ty #[.slice (some ⟨g,0,none⟩) n cap,.slice (some ⟨wr.heap.size,0,none⟩) 1 1]).run Tryz.prog (wr.alloc (.cells #[.int .i64 0,.int .i64 0,.string ⟨#[]⟩,.string ⟨#[]⟩] 109))=.ok v' w'/\SF B (fun _ t=>t=109) w w'):=fun ty=>by
     obtain⟨xs,hx⟩:=uh HOr
     obtain⟨v',w',h1,h2⟩:=app_sf (B:=B) (T:=fun _ t=>t=109) (wr.alloc (.cells #[.int .i64 0,.int .i64 0,.string ⟨#[]⟩,.string ⟨#[]⟩] 109)) 23 ty 109 i0 _ 4 48 Tryz.underlying23 hi hz0 hz1 hz2 rfl (by decide) (.slice (some ⟨g,0,none⟩) n cap) n ⟨xs,hx.alloc _⟩ ⟨wr.heap.size,0,none⟩ 1 [.int .i64 0,.int .i64 0,.string ⟨#[]⟩,.string ⟨#[]⟩] rfl (four_cell _ _ _ _ _ _) (four_one _ _ _ _) hn (by decide) (by have:=(uh HSF).size;simp;omega) (fun _ _=>rfl)
     exact⟨v',w',h1,((uh HSF).trans (SF.bel (bal _ _) (Nat.le_trans hB (uh HSF).size))).trans h2⟩
    clear HOr
    go_wp2_with (first
     | (at_builtin;refine wpList_append_run _ (Z:=fun _ w'=>SF B (fun _ t=>t=109) w w') rfl _ _ 23 23 rfl _ _ rfl rfl ((uh HAPP) _) ?_)
     | go_in)
    intro v' w1 hsf
    have HSF1:=zh hsf
    clear hsf HAPP
    go_wp2
    go_end0
    exact⟨rfl,uh HSF1⟩
theorem subs_sp (B:Nat) (v:Value) (n:Nat) (w:World) (hB:B<=w.heap.size) (hn:n<=1000000) (h:OwnE w B 114 5 v n):Calls Tryz.prog 41 #[v] w fun e w'=>e=.returned (.tuple #[])/\SF B (fun _ t=>t=114) w w':=by
 obtain⟨i0,hi,hz0,hz1,hz2⟩:=info_parts infoSub
 have hv:(v=.slice none 0 0/\n=0)\/∃ g cap,v=.slice (some ⟨g,0,none⟩) n cap:=by
  obtain⟨xs,h⟩:=h
  rcases h.2 with h1 | ⟨g,cap,_,h1,_⟩
  ·exact .inl h1
  ·exact .inr ⟨g,cap,h1⟩
 rcases hv with⟨rfl,rfl⟩ | ⟨g,cap,rfl⟩
 ·clear h
  go_enter Tryz.func41,Tryz.ntmps41
  go_wp2
  refine wp_loop_rounds 1 ?_
  rw[rounds_succ]
  have HAPP:Hid (∀ ty,∃ v' w',(Builtin.append_ #[26,26] ty #[.slice none 0 0,.slice (some ⟨w.heap.size,0,none⟩) 1 1]).run Tryz.prog (w.alloc (.cells #[.string ⟨#[]⟩,.int .i64 0,.bool false,.bool false,.int .i64 0] 114))=.ok v' w'/\SF B (fun _ t=>t=114) w w'):=fun ty=>by
   obtain⟨v',w',h1,h2⟩:=app_sf (B:=B) (T:=fun _ t=>t=114) (w.alloc (.cells #[.string ⟨#[]⟩,.int .i64 0,.bool false,.bool false,.int .i64 0] 114)) 26 ty 114 i0 _ 5 40 Tryz.underlying26 hi hz0 hz1 hz2 rfl (by decide) (.slice none 0 0) 0 ⟨[],World.ownsRow_nil _ _ _ _⟩ ⟨w.heap.size,0,none⟩ 1 [.string ⟨#[]⟩,.int .i64 0,.bool false,.bool false,.int .i64 0] rfl (five_cell _ _ _ _ _ _ _) (five_one ⟨⟨#[]⟩,0,false,false,0⟩) hn (by decide) (by simp;omega) (fun _ _=>rfl)
   exact⟨v',w',h1,(SF.bel (bal _ _) hB).trans h2⟩
  go_wp2_with (first
   | (at_builtin;refine wpList_append_run _ (Z:=fun _ w'=>SF B (fun _ t=>t=114) w w') rfl _ _ 26 26 rfl _ _ rfl rfl ((uh HAPP) _) ?_)
   | go_in)
  intro v' w1 hsf
  have HSF:=zh hsf
  clear hsf HAPP
  go_wp2
  go_end0
  exact⟨rfl,uh HSF⟩
 ·have HO:=zh h
  have hgb:=h.blk
  clear h
  go_enter Tryz.func41,Tryz.ntmps41
  go_wp2
  go_loopw [2] (fun i wr=>∃ k:Nat,k<=n/\i=.int .i64 k/\Hid (SF B (fun _ t=>t=114) w wr)) (fun i _=>n - (intOf i).toNat)
  case atStart=>exact⟨0,Nat.zero_le _,rfl,SF.refl _ _ _⟩
  case round =>
   obtain⟨k,hk,rfl,HSF⟩:=hrel
   have HOr:=zh ((uh HO).sf (uh HSF))
   by_cases hlt:k < n
   ·have HG:Hid (SFg B (fun _ t=>t=114) w wr g 114):=⟨uh HSF,(uh HOr).blk.1,rfl,(uh HOr).blk.2⟩
    obtain⟨⟨v0,c0⟩,f0⟩:=(uh HOr).cell (k * 5) (by omega)
    obtain⟨⟨v1,c1⟩,f1⟩:=(uh HOr).cell (k * 5+1) (by omega)
    obtain⟨⟨v2,c2⟩,f2⟩:=(uh HOr).cell (k * 5+2) (by omega)
    obtain⟨⟨v3,c3⟩,f3⟩:=(uh HOr).cell (k * 5+3) (by omega)
    obtain⟨⟨v4,c4⟩,f4⟩:=(uh HOr).cell (k * 5+4) (by omega)
    go_wp2
    go_roundw
    case rel=>exact⟨k+1,by omega,by go_num,((((((uh HG).set _ _).set _ _).set _ _).set _ _).set _ _).1⟩
    case measure=>simp[intOf];omega
   ·have HAPP:Hid (∀ ty,∃ v' w',(Builtin.append_ #[26,26] ty #[.slice (some ⟨g,0,none⟩) n cap,.slice (some ⟨wr.heap.size,0,none⟩) 1 1]).run Tryz.prog (wr.alloc (.cells #[.string ⟨#[]⟩,.int .i64 0,.bool false,.bool false,.int .i64 0] 114))=.ok v' w'/\SF B (fun _ t=>t=114) w w'):=fun ty=>by
     obtain⟨xs,hx⟩:=uh HOr
     obtain⟨v',w',h1,h2⟩:=app_sf (B:=B) (T:=fun _ t=>t=114) (wr.alloc (.cells #[.string ⟨#[]⟩,.int .i64 0,.bool false,.bool false,.int .i64 0] 114)) 26 ty 114 i0 _ 5 40 Tryz.underlying26 hi hz0 hz1 hz2 rfl (by decide) (.slice (some ⟨g,0,none⟩) n cap) n ⟨xs,hx.alloc _⟩ ⟨wr.heap.size,0,none⟩ 1 [.string ⟨#[]⟩,.int .i64 0,.bool false,.bool false,.int .i64 0] rfl (five_cell _ _ _ _ _ _ _) (five_one ⟨⟨#[]⟩,0,false,false,0⟩) hn (by decide) (by have:=(uh HSF).size;simp;omega) (fun _ _=>rfl)
     exact⟨v',w',h1,((uh HSF).trans (SF.bel (bal _ _) (Nat.le_trans hB (uh HSF).size))).trans h2⟩
    clear HOr
    go_wp2_with (first
     | (at_builtin;refine wpList_append_run _ (Z:=fun _ w'=>SF B (fun _ t=>t=114) w w') rfl _ _ 26 26 rfl _ _ rfl rfl ((uh HAPP) _) ?_)
     | go_in)
    intro v' w1 hsf
    have HSF1:=zh hsf
    clear hsf HAPP
    go_wp2
    go_end0
    exact⟨rfl,uh HSF1⟩
theorem infoWill:(Tryz.prog.info? 112).map (fun i=>(i.zero,i.size,i.bytes))=some (some (.agg #[.string ⟨#[]⟩,.string ⟨#[]⟩,.int .i64 0,.bool false,.slice none 0 0]),5,72):=by kernel_rfl
def spT (o:Option Nat) (k:Nat) (t:TypeId):Prop:=t=109\/(t=112/\some k=o)\/t=9\/t=114\/t=3
theorem wnew_one:∀ u ∈ [Value.string ⟨#[]⟩,.string ⟨#[]⟩,.int .i64 0,.bool false,.slice none 0 0],u.oneCell'=true:=by
 intro u hu
 simp only[List.mem_cons,List.not_mem_nil,or_false]at hu
 rcases hu with rfl | rfl | rfl | rfl | rfl <;> rfl
theorem will_ne:¬ ((112:TypeId)=109):=by decide
theorem wills_sp (B:Nat) (v:Value) (n:Nat) (ws:List Wv) (w:World) (hB:B<=w.heap.size) (hn:n<=1000000) (h:w.ownsRow B 112 5 v n (wcs ws)) (hp:∀ (i:Nat) (u:Wv),ws[i]?=some u->∃ m,m<=1000000/\OwnE w B 109 4 u.props.val m):Calls Tryz.prog 39 #[v] w fun e w'=>e=.returned (.tuple #[])/\SF B (fun k t=>t=109\/(t=112/\some k=v.ownBlock)) w w':=by
 obtain⟨i0,hi,hz0,hz1,hz2⟩:=info_parts infoWill
 have hwl:ws.length=n:=by have:=h.1;rw[wcs_length]at this;omega
 have hv:(v=.slice none 0 0/\n=0)\/∃ g cap,v=.slice (some ⟨g,0,none⟩) n cap:=by
  rcases h.2 with h1 | ⟨g,cap,_,h1,_⟩
  ·exact .inl h1
  ·exact .inr ⟨g,cap,h1⟩
 rcases hv with⟨rfl,rfl⟩ | ⟨g,cap,rfl⟩
 ·clear h hp hwl
  go_enter Tryz.func39,Tryz.ntmps39
  go_wp2
  refine wp_loop_rounds 1 ?_
  rw[rounds_succ]
  have HAPP:Hid (∀ ty,∃ v' w',(Builtin.append_ #[24,24] ty #[.slice none 0 0,.slice (some ⟨w.heap.size,0,none⟩) 1 1]).run Tryz.prog (w.alloc (.cells #[.string ⟨#[]⟩,.string ⟨#[]⟩,.int .i64 0,.bool false,.slice none 0 0] 112))=.ok v' w'/\SF B (fun k t=>t=109\/(t=112/\some k=Value.ownBlock (.slice none 0 0))) w w'):=fun ty=>by
   obtain⟨v',w',h1,h2⟩:=app_sf (B:=B) (T:=fun k t=>t=109\/(t=112/\some k=Value.ownBlock (.slice none 0 0))) (w.alloc (.cells #[.string ⟨#[]⟩,.string ⟨#[]⟩,.int .i64 0,.bool false,.slice none 0 0] 112)) 24 ty 112 i0 _ 5 72 Tryz.underlying24 hi hz0 hz1 hz2 rfl (by decide) (.slice none 0 0) 0 ⟨[],World.ownsRow_nil _ _ _ _⟩ ⟨w.heap.size,0,none⟩ 1 [.string ⟨#[]⟩,.string ⟨#[]⟩,.int .i64 0,.bool false,.slice none 0 0] rfl (five_cell _ _ _ _ _ _ _) wnew_one hn (by decide) (by simp;omega) (fun _ h=>.inr ⟨rfl,h.symm⟩)
   exact⟨v',w',h1,(SF.bel (bal _ _) hB).trans h2⟩
  go_wp2_with (first
   | (at_builtin;refine wpList_append_run _ (Z:=fun _ w'=>SF B (fun k t=>t=109\/(t=112/\some k=Value.ownBlock (.slice none 0 0))) w w') rfl _ _ 24 24 rfl _ _ rfl rfl ((uh HAPP) _) ?_)
   | go_in)
  intro v' w1 hsf
  have HSF:=zh hsf
  clear hsf HAPP
  go_wp2
  go_end0
  exact⟨rfl,uh HSF⟩
 ·have HO:=zh h
  have HP:=zh hp
  have HWL:=zh hwl
  clear h hp hwl
  go_enter Tryz.func39,Tryz.ntmps39
  go_wp2
  go_loopw [2] (fun i wr=>∃ (k:Nat) (ys:List Value),k<=n/\i=.int .i64 k/\Hid (SF B (fun k t=>t=109\/(t=112/\some k=Value.ownBlock (.slice (some ⟨g,0,none⟩) n cap))) w wr)/\Hid (wr.ownsRow B 112 5 (.slice (some ⟨g,0,none⟩) n cap) n ys)/\Hid (∀ j,k * 5<=j->ys[j]?=(wcs ws)[j]?)) (fun i _=>n - (intOf i).toNat)
  case atStart=>exact⟨0,wcs ws,Nat.zero_le _,rfl,SF.refl _ _ _,HO,fun _ _=>rfl⟩
  case round =>
   obtain⟨k,ys,hk,rfl,HSF,HY,HYS⟩:=hrel
   by_cases hlt:k < n
   ·obtain⟨u,hu⟩:∃ u,ws[k]?=some u:=⟨_,List.getElem?_eq_getElem (by rw[uh HWL];exact hlt)⟩
    obtain⟨m,hm,ho⟩:=(uh HP) k u hu
    obtain⟨ut,up,uq,ur,⟨pa,pn,pc⟩⟩:=u
    have c4:wr.cell? ⟨g,k * 5+4,none⟩=some (.slice pa pn pc):=by
     rw[(uh HY).cellAt (k * 5+4) (by omega),(uh HYS) (k * 5+4) (by omega),wcs_get ws k _ hu 4 (by omega)]
     rfl
    have HO2:=zh (ho.sf (uh HSF))
    have hBr:B<=wr.heap.size:=Nat.le_trans hB (uh HSF).size
    have HPS:=zh (props_sp B (.slice pa pn pc) m wr hBr hm (uh HO2))
    clear ho hu
    go_wp2_with fail
    refine (uh HPS).mono ?_
    rintro e w2 ⟨rfl,hsf⟩
    have HSF2:Hid (SF B (fun k t=>t=109\/(t=112/\some k=Value.ownBlock (.slice (some ⟨g,0,none⟩) n cap))) w w2):=(uh HSF).trans (hsf.weak (fun _ _ h=>.inl h))
    have HY2:Hid (w2.ownsRow B 112 5 (.slice (some ⟨g,0,none⟩) n cap) n ys):=owns_sf (uh HY) hsf (fun _ _=>will_ne)
    have hE:OwnE w2 B 112 5 (.slice (some ⟨g,0,none⟩) n cap) n:=⟨ys,uh HY2⟩
    have HG:Hid (SFg B (fun k t=>t=109\/(t=112/\some k=Value.ownBlock (.slice (some ⟨g,0,none⟩) n cap))) w w2 g 112):=⟨uh HSF2,hE.blk.1,.inr ⟨rfl,rfl⟩,hE.blk.2⟩
    obtain⟨⟨v0,d0⟩,f0⟩:=hE.cell (k * 5) (by omega)
    obtain⟨⟨v1,d1⟩,f1⟩:=hE.cell (k * 5+1) (by omega)
    obtain⟨⟨v2,d2⟩,f2⟩:=hE.cell (k * 5+2) (by omega)
    obtain⟨⟨v3,d3⟩,f3⟩:=hE.cell (k * 5+3) (by omega)
    obtain⟨⟨v4,d4⟩,f4⟩:=hE.cell (k * 5+4) (by omega)
    clear hsf hE HPS HO2 HSF HY c4
    go_wp2
    go_roundw
    case rel =>
     have hs:=(((((uh HY2).stored (k * 5) (.string ⟨#[115,112,111,105,108,116]⟩)).1.stored (k * 5+1) (.string ⟨#[]⟩)).1.stored (k * 5+2) (.int .i64 0)).1.stored (k * 5+3) (.bool false)).1.stored (k * 5+4) (.slice none 0 0)
     refine⟨k+1,_,by omega,by go_num,(((((uh HG).set _ _).set _ _).set _ _).set _ _ |>.set _ _).1,hs.1,fun j hj=>?_⟩
     rw[List.getElem?_set_ne (by omega),List.getElem?_set_ne (by omega),List.getElem?_set_ne (by omega),List.getElem?_set_ne (by omega),List.getElem?_set_ne (by omega)]
     exact (uh HYS) j (by omega)
    case measure=>simp[intOf];omega
   ·have HAPP:Hid (∀ ty,∃ v' w',(Builtin.append_ #[24,24] ty #[.slice (some ⟨g,0,none⟩) n cap,.slice (some ⟨wr.heap.size,0,none⟩) 1 1]).run Tryz.prog (wr.alloc (.cells #[.string ⟨#[]⟩,.string ⟨#[]⟩,.int .i64 0,.bool false,.slice none 0 0] 112))=.ok v' w'/\SF B (fun k t=>t=109\/(t=112/\some k=Value.ownBlock (.slice (some ⟨g,0,none⟩) n cap))) w w'):=fun ty=>by
     obtain⟨v',w',h1,h2⟩:=app_sf (B:=B) (T:=fun k t=>t=109\/(t=112/\some k=Value.ownBlock (.slice (some ⟨g,0,none⟩) n cap))) (wr.alloc (.cells #[.string ⟨#[]⟩,.string ⟨#[]⟩,.int .i64 0,.bool false,.slice none 0 0] 112)) 24 ty 112 i0 _ 5 72 Tryz.underlying24 hi hz0 hz1 hz2 rfl (by decide) (.slice (some ⟨g,0,none⟩) n cap) n ⟨ys,(uh HY).alloc _⟩ ⟨wr.heap.size,0,none⟩ 1 [.string ⟨#[]⟩,.string ⟨#[]⟩,.int .i64 0,.bool false,.slice none 0 0] rfl (five_cell _ _ _ _ _ _ _) wnew_one hn (by decide) (by have:=(uh HSF).size;simp;omega) (fun _ h=>.inr ⟨rfl,h.symm⟩)
     exact⟨v',w',h1,((uh HSF).trans (SF.bel (bal _ _) (Nat.le_trans hB (uh HSF).size))).trans h2⟩
    clear HY HYS
    go_wp2_with (first
     | (at_builtin;refine wpList_append_run _ (Z:=fun _ w'=>SF B (fun k t=>t=109\/(t=112/\some k=Value.ownBlock (.slice (some ⟨g,0,none⟩) n cap))) w w') rfl _ _ 24 24 rfl _ _ rfl rfl ((uh HAPP) _) ?_)
     | go_in)
    intro v' w1 hsf
    have HSF1:=zh hsf
    clear hsf HAPP
    go_wp2
    go_end0
    exact⟨rfl,uh HSF1⟩
structure Lts (P:Pa):Prop where
 props:P.props.length<=32
 wills:P.wills.length<=1
 wp:∀ u ∈ P.wills,u.props.length<=32
 user:P.user.length<=1
 pass:P.pass.length<=1
 subs:P.subs.length<=16
 filters:P.filters.length<=16
 codes:P.codes.length<=16
theorem pk_block {w:World} {A:Nat} {q:Pkv} (h:w.heap[A]?=some (Obj.cells q.cells.toArray 29 (0,0))):Pk w A q:=fun j hj=>by
 refine⟨?_,by unfold World.frozen?;rw[h];simp⟩
 unfold World.cell?
 dsimp only
 rw[h]
 simpa using cells_get q j hj
theorem pk_ne (o:Option Nat) (k:Nat):¬ spT o k 29:=by
 rintro (h | ⟨h,_⟩ | h | h | h) <;> exact absurd h (by decide)
structure SpOk (w:World) (B:Nat) (q:Pkv):Prop where
 props:∃ n,n<=1000000/\OwnE w B 109 4 q.props.val n
 wills:∃ ws n,n<=1000000/\w.ownsRow B 112 5 q.wills.val n (wcs ws)/\∀ (i:Nat) (u:Wv),ws[i]?=some u->∃ m,m<=1000000/\OwnE w B 109 4 u.props.val m
 user:∃ n,n<=1000000/\OwnE w B 9 1 q.user.val n
 pass:∃ n,n<=1000000/\OwnE w B 9 1 q.pass.val n
 subs:∃ n,n<=1000000/\OwnE w B 114 5 q.subs.val n
 filters:∃ n,n<=1000000/\OwnE w B 9 1 q.filters.val n
 codes:∃ n,n<=1000000/\OwnE w B 3 1 q.codes.val n
theorem own_sf {w w':World} {B:Nat} {e:TypeId} {s:Nat} {v:Value} {T:Nat->TypeId->Prop} (h:∃ n,n<=1000000/\OwnE w B e s v n) (k:SF B T w w'):∃ n,n<=1000000/\OwnE w' B e s v n:=by
 obtain⟨n,h1,h2⟩:=h
 exact⟨n,h1,h2.sf k⟩
theorem SpOk.sf {w w':World} {B:Nat} {q:Pkv} {T:Nat->TypeId->Prop} (h:SpOk w B q) (k:SF B T w w') (ht:∀ g,q.wills.val.ownBlock=some g->¬ T g 112):SpOk w' B q:=by
 refine⟨own_sf h.props k,?_,own_sf h.user k,own_sf h.pass k,own_sf h.subs k,own_sf h.filters k,own_sf h.codes k⟩
 obtain⟨ws,n,h1,h2,h3⟩:=h.wills
 exact⟨ws,n,h1,owns_sf h2 k ht,fun i u hu=>own_sf (h3 i u hu) k⟩
theorem Mean.spok {w:World} {B:Nat} {q:Pkv} {P:Pa} (h:Mean w B q P) (hl:Lts P):SpOk w B q:=by
 refine⟨⟨_,by have:=hl.props;omega,_,h.props⟩,?_,⟨_,by have:=hl.user;omega,_,h.user⟩,⟨_,by have:=hl.pass;omega,_,h.pass⟩,⟨_,by have:=hl.subs;omega,_,h.subs⟩,⟨_,by have:=hl.filters;omega,_,h.filters⟩,⟨_,by have:=hl.codes;omega,_,h.codes⟩⟩
 obtain⟨ws,k1,k2,k3⟩:=h.wills
 refine⟨ws,_,by have:=hl.wills;omega,k1,fun i u hu=>?_⟩
 have hi:i < ws.length:=(List.getElem?_eq_some_iff.1 hu).1
 obtain⟨x,hx⟩:∃ x,P.wills[i]?=some x:=⟨_,List.getElem?_eq_getElem (by rw[<- k2];exact hi)⟩
 have hmem:x ∈ P.wills:=List.mem_of_getElem? hx
 exact⟨x.props.length,by have:=hl.wp x hmem;omega,_,(k3 i u x hu hx).2.2.2.2⟩
theorem packet_sf (B:Nat) (q:Pkv) (w:World) (hB:B<=w.heap.size) (h:SpOk w B q):Calls Tryz.prog 12 #[q.val] w fun e w'=>e=.returned (.tuple #[])/\SF B (spT q.wills.val.ownBlock) w w':=by
 have HAL:Hid (SF B (spT q.wills.val.ownBlock) w (w.alloc (.cells q.cells.toArray 29))):=SF.bel (bal _ _) hB
 have HALb:Hid (Below w.heap.size w (w.alloc (.cells q.cells.toArray 29))):=bal _ _
 have HBX:Hid ((w.alloc (.cells q.cells.toArray 29)).heap[w.heap.size]?=some (Obj.cells q.cells.toArray 29 (0,0))):=Array.getElem?_push_size
 have HM:=zh h
 clear h
 go_enter Tryz.func12,Tryz.ntmps12
 go_upto_region 1 with fail
 change Code.wp _ _ _ _ (w.alloc (.cells q.cells.toArray 29))
 generalize w.alloc (.cells q.cells.toArray 29)=w0 at HAL HALb HBX |-
 have c0:=(pk_block (uh HBX)).props
 have hB0:B<=w0.heap.size:=Nat.le_trans hB (uh HAL).size
 obtain⟨n0,ho0⟩:=own_sf (uh HM).props (uh HAL)
 have HC0:=zh (props_sp B _ n0 w0 hB0 ho0.1 ho0.2)
 clear ho0
 go_wp2_with fail
 refine (uh HC0).mono ?_
 rintro e w1 ⟨rfl,hsf⟩
 have HS1:Hid (SF B (spT q.wills.val.ownBlock) w w1):=(uh HAL).trans (hsf.weak (fun _ _ h=>.inl h))
 have HX1:Hid (w1.heap[w.heap.size]?=some (Obj.cells q.cells.toArray 29 (0,0))):=(hsf.weak (T':=spT q.wills.val.ownBlock) (fun _ _ h=>.inl h)).same _ _ _ (uh HBX) (pk_ne _ _)
 have HS1p:Hid (SF B (fun _ t=>t=109) w w1):=(SF.bel (uh HALb) hB).trans hsf
 clear hsf c0 HC0
 have c1:=(pk_block (uh HX1)).wills
 have hB1:B<=w1.heap.size:=Nat.le_trans hB (uh HS1).size
 have HC1:Hid (Calls Tryz.prog 39 #[q.wills.val] w1 fun e w'=>e=.returned (.tuple #[])/\SF B (fun k t=>t=109\/(t=112/\some k=q.wills.val.ownBlock)) w1 w'):=by
  obtain⟨ws,n,k1,k2,k3⟩:=(uh HM).wills
  exact wills_sp B _ n ws w1 hB1 k1 (owns_sf k2 (uh HS1p) (fun _ _=>will_ne)) (fun i u hu=>own_sf (k3 i u hu) (uh HS1))
 go_wp2_with fail
 refine (uh HC1).mono ?_
 rintro e w2 ⟨rfl,hsf⟩
 have HS2:Hid (SF B (spT q.wills.val.ownBlock) w w2):=(uh HS1).trans (hsf.weak (fun _ _ h=>h.elim (fun h=>.inl h) (fun h=>.inr (.inl h))))
 have HX2:Hid (w2.heap[w.heap.size]?=some (Obj.cells q.cells.toArray 29 (0,0))):=(hsf.weak (T':=spT q.wills.val.ownBlock) (fun _ _ h=>h.elim (fun h=>.inl h) (fun h=>.inr (.inl h)))).same _ _ _ (uh HX1) (pk_ne _ _)
 clear hsf c1 HC1
 have c2:=(pk_block (uh HX2)).user
 have hB2:B<=w2.heap.size:=Nat.le_trans hB (uh HS2).size
 obtain⟨n2,ho2⟩:=own_sf (uh HM).user (uh HS2)
 have HC2:=zh (strings_sp B _ n2 w2 hB2 ho2.1 ho2.2)
 clear ho2
 go_wp2_with fail
 refine (uh HC2).mono ?_
 rintro e w3 ⟨rfl,hsf⟩
 have HS3:Hid (SF B (spT q.wills.val.ownBlock) w w3):=(uh HS2).trans (hsf.weak (fun _ _ h=>.inr (.inr (.inl h))))
 have HX3:Hid (w3.heap[w.heap.size]?=some (Obj.cells q.cells.toArray 29 (0,0))):=(hsf.weak (T':=spT q.wills.val.ownBlock) (fun _ _ h=>.inr (.inr (.inl h)))).same _ _ _ (uh HX2) (pk_ne _ _)
 clear hsf c2 HC2
 have c3:=(pk_block (uh HX3)).pass
 have hB3:B<=w3.heap.size:=Nat.le_trans hB (uh HS3).size
 obtain⟨n3,ho3⟩:=own_sf (uh HM).pass (uh HS3)
 have HC3:=zh (strings_sp B _ n3 w3 hB3 ho3.1 ho3.2)
 clear ho3
 go_wp2_with fail
 refine (uh HC3).mono ?_
 rintro e w4 ⟨rfl,hsf⟩
 have HS4:Hid (SF B (spT q.wills.val.ownBlock) w w4):=(uh HS3).trans (hsf.weak (fun _ _ h=>.inr (.inr (.inl h))))
 have HX4:Hid (w4.heap[w.heap.size]?=some (Obj.cells q.cells.toArray 29 (0,0))):=(hsf.weak (T':=spT q.wills.val.ownBlock) (fun _ _ h=>.inr (.inr (.inl h)))).same _ _ _ (uh HX3) (pk_ne _ _)
 clear hsf c3 HC3
 have c4:=(pk_block (uh HX4)).subs
 have hB4:B<=w4.heap.size:=Nat.le_trans hB (uh HS4).size
 obtain⟨n4,ho4⟩:=own_sf (uh HM).subs (uh HS4)
 have HC4:=zh (subs_sp B _ n4 w4 hB4 ho4.1 ho4.2)
 clear ho4
 go_wp2_with fail
 refine (uh HC4).mono ?_
 rintro e w5 ⟨rfl,hsf⟩
 have HS5:Hid (SF B (spT q.wills.val.ownBlock) w w5):=(uh HS4).trans (hsf.weak (fun _ _ h=>.inr (.inr (.inr (.inl h)))))
 have HX5:Hid (w5.heap[w.heap.size]?=some (Obj.cells q.cells.toArray 29 (0,0))):=(hsf.weak (T':=spT q.wills.val.ownBlock) (fun _ _ h=>.inr (.inr (.inr (.inl h))))).same _ _ _ (uh HX4) (pk_ne _ _)
 clear hsf c4 HC4
 have c5:=(pk_block (uh HX5)).filters
 have hB5:B<=w5.heap.size:=Nat.le_trans hB (uh HS5).size
 obtain⟨n5,ho5⟩:=own_sf (uh HM).filters (uh HS5)
 have HC5:=zh (strings_sp B _ n5 w5 hB5 ho5.1 ho5.2)
 clear ho5
 go_wp2_with fail
 refine (uh HC5).mono ?_
 rintro e w6 ⟨rfl,hsf⟩
 have HS6:Hid (SF B (spT q.wills.val.ownBlock) w w6):=(uh HS5).trans (hsf.weak (fun _ _ h=>.inr (.inr (.inl h))))
 have HX6:Hid (w6.heap[w.heap.size]?=some (Obj.cells q.cells.toArray 29 (0,0))):=(hsf.weak (T':=spT q.wills.val.ownBlock) (fun _ _ h=>.inr (.inr (.inl h)))).same _ _ _ (uh HX5) (pk_ne _ _)
 clear hsf c5 HC5
 have c6:=(pk_block (uh HX6)).codes
 have hB6:B<=w6.heap.size:=Nat.le_trans hB (uh HS6).size
 obtain⟨n6,ho6⟩:=own_sf (uh HM).codes (uh HS6)
 have HC6:=zh (numbers_sp B _ n6 w6 hB6 ho6.1 ho6.2)
 clear ho6
 go_wp2_with fail
 refine (uh HC6).mono ?_
 rintro e w7 ⟨rfl,hsf⟩
 have HS7:Hid (SF B (spT q.wills.val.ownBlock) w w7):=(uh HS6).trans (hsf.weak (fun _ _ h=>.inr (.inr (.inr (.inr h)))))
 have HX7:Hid (w7.heap[w.heap.size]?=some (Obj.cells q.cells.toArray 29 (0,0))):=(hsf.weak (T':=spT q.wills.val.ownBlock) (fun _ _ h=>.inr (.inr (.inr (.inr h))))).same _ _ _ (uh HX6) (pk_ne _ _)
 clear hsf c6 HC6
 go_wp2
 go_end0
 exact⟨rfl,uh HS7⟩
def spA (_:Nat) (t:TypeId):Prop:=t=29\/t=109\/t=112\/t=9\/t=114\/t=3
theorem spT_A (o:Option Nat) (k:Nat) (t:TypeId) (h:spT o k t):spA k t:=by
 rcases h with h | ⟨h,_⟩ | h | h | h
 ·exact .inr (.inl h)
 ·exact .inr (.inr (.inl h))
 ·exact .inr (.inr (.inr (.inl h)))
 ·exact .inr (.inr (.inr (.inr (.inl h))))
 ·exact .inr (.inr (.inr (.inr (.inr h))))
theorem spT_will {o:Option Nat} {k:Nat} (h:spT o k 112):o=some k:=by
 rcases h with h | ⟨_,h⟩ | h | h | h
 ·exact absurd h (by decide)
 ·exact h.symm
 ·exact absurd h (by decide)
 ·exact absurd h (by decide)
 ·exact absurd h (by decide)
theorem pcs_get (d:List Pkv):∀ (i:Nat) (u:Pkv),d[i]?=some u->∀ j,j < 19->(d.flatMap Pkv.cells)[i * 19+j]?=u.cells[j]?:=by
 induction d with
 | nil=>intro i u h;simp at h
 | cons v us ih =>
  intro i u h j hj
  have hl:v.cells.length=19:=rfl
  cases i with
  | zero =>
   simp at h
   subst h
   rw[List.flatMap_cons,Nat.zero_mul,Nat.zero_add,List.getElem?_append_left (by omega)]
  | succ i =>
   simp at h
   have:=ih i u h j hj
   rw[List.flatMap_cons,List.getElem?_append_right (by omega),<- this]
   congr 1
   omega
theorem SF.setCells {B:Nat} {T:Nat->TypeId->Prop} {a:World} (g:Nat) (e:TypeId) (hg:B<=g) (ht:T g e):∀ (vs:List Value) (o:Nat) (b:World),SF B T a b->(∃ cur,b.heap[g]?=some (Obj.cells cur e (0,0)))->SF B T a (b.setCells g o vs)
 | [],_,_,h,_=>h
 | v :: r,o,b,h,⟨cur,hb⟩=>by
  rw[World.setCells]
  refine SF.setCells g e hg ht r (o+1) _ (h.set g o v hg cur e hb ht) ⟨cur.setIfInBounds o v,?_⟩
  unfold World.setCell
  simp[Array.getElem?_modify,hb]
theorem owns_setCells {B:Nat} {e:TypeId} {s g n cap:Nat}:∀ (vs:List Value) (o:Nat) (w:World) (ys:List Value),w.ownsRow B e s (.slice (some ⟨g,0,none⟩) n cap) n ys->∃ zs,(w.setCells g o vs).ownsRow B e s (.slice (some ⟨g,0,none⟩) n cap) n zs/\∀ j,o+vs.length<=j->zs[j]?=ys[j]?
 | [],_,_,ys,h=>⟨ys,h,fun _ _=>rfl⟩
 | v :: r,o,w,ys,h=>by
  obtain⟨zs,h1,h2⟩:=owns_setCells r (o+1) _ _ (h.stored o v).1
  refine⟨zs,h1,fun j hj=>?_⟩
  rw[List.length_cons]at hj
  rw[h2 j (by omega),List.getElem?_set_ne (by omega)]
theorem packet_build0 (ρ:Operand->Value) (dst:Option Tmp) (ty:TypeId) (pos:String) (after:Array Edge) (w:World) :
  (execOp ρ ⟨dst,.build 29 #[],ty,pos,after,none⟩).run Tryz.prog w=.ok (.value pkz.val) w:=by
 kernel_rfl
theorem papp (B n:Nat) (v:Value) (w wr:World) (i0:TypeInfo) (hi:Tryz.prog.info? 29=some i0) (hz0:i0.zero=some (.agg pkz.cells.toArray)) (hz1:i0.size=19) (hz2:i0.bytes=288) (hn:n<=1000000) (hB:B<=w.heap.size) (hs:SF B spA w wr) (ho:OwnE wr B 29 19 v n) :
  ∀ ty,∃ v' w',(Builtin.append_ #[52,52] ty #[v,.slice (some ⟨wr.heap.size,0,none⟩) 1 1]).run Tryz.prog (wr.alloc (.cells pkz.cells.toArray 29))=.ok v' w'/\SF B spA w w':=fun ty=>by
 have hal:Below wr.heap.size wr (wr.alloc (.cells pkz.cells.toArray 29)):=bal _ _
 obtain⟨xs,hx⟩:=ho
 obtain⟨v',w',h1,h2⟩:=app_sf (B:=B) (T:=spA) (wr.alloc (.cells pkz.cells.toArray 29)) 52 ty 29 i0 _ 19 288 Tryz.underlying52 hi hz0 hz1 hz2 rfl (by decide) v n ⟨xs,hx.alloc _⟩ ⟨wr.heap.size,0,none⟩ 1 pkz.cells rfl (pk_cells (pk_new wr pkz)) pkz.ones hn (by decide) (by have:=hs.size;simp;omega) (fun _ _=>.inl rfl)
 exact⟨v',w',h1,(hs.trans (SF.bel hal (Nat.le_trans hB hs.size))).trans h2⟩
theorem pkts_sp (B:Nat) (v:Value) (qs:List Pkv) (w:World) (hB:B<=w.heap.size) (hn:qs.length<=1000000) (h:w.ownsRow B 29 19 v qs.length (qs.flatMap Pkv.cells)) (hok:∀ (i:Nat) (q:Pkv),qs[i]?=some q->SpOk w B q)
  (hd:∀ (i j:Nat) (q q':Pkv) (g:Nat),i < j->qs[i]?=some q->qs[j]?=some q'->q.wills.val.ownBlock=some g->q'.wills.val.ownBlock≠some g):Calls Tryz.prog 23 #[v] w fun e w'=>e=.returned (.tuple #[])/\SF B spA w w':=by
 obtain⟨i0,hi,hz0,hz1,hz2⟩:=info_parts infoPk
 have hv:(v=.slice none 0 0/\qs.length=0)\/∃ g cap,v=.slice (some ⟨g,0,none⟩) qs.length cap:=by
  rcases h.2 with h1 | ⟨g,cap,_,h1,_⟩
  ·exact .inl h1
  ·exact .inr ⟨g,cap,h1⟩
 have HO:=zh h
 have HK:=zh hok
 have HD:=zh hd
 clear h hok hd
 generalize hql:qs.length=n at hv hn HO
 have HQL:=zh hql
 clear hql
 rcases hv with⟨rfl,rfl⟩ | ⟨g,cap,rfl⟩
 ·have HAPP:=zh (papp B 0 (.slice none 0 0) w w i0 hi hz0 hz1 hz2 hn hB (SF.refl _ _ _) ⟨[],World.ownsRow_nil _ _ _ _⟩)
  clear HO HK HD HQL
  go_enter Tryz.func23,Tryz.ntmps23
  go_wp2
  refine wp_loop_rounds 1 ?_
  rw[rounds_succ]
  go_upto_region 5 with fail
  iterate 4 go_step
  refine Go.Proofs.YtpheelbbpiieiaaGreatDoor.wpList_value rfl (packet_build0 _ _ _ _ _ _) ?_
  simp only[Act.put,List.setIfInBounds_toArray,List.set_cons_zero,List.set_cons_succ]
  refine Go.Proofs.YtpheelbbpiieiaaGreatDoor.wpList_value rfl (pk_slice _ _ _ _ _ _ pkz rfl _) ?_
  simp only[Act.put,List.setIfInBounds_toArray,List.set_cons_zero,List.set_cons_succ]
  refine wpList_append_run _ (Z:=fun _ w'=>SF B spA w w') rfl _ _ 52 52 rfl _ _ rfl rfl ((uh HAPP) _) ?_
  intro v' w1 hsf
  have HSF:=zh hsf
  clear hsf HAPP
  simp only[Act.put,List.setIfInBounds_toArray,List.set_cons_zero,List.set_cons_succ]
  go_wp2
  go_end0
  exact⟨rfl,uh HSF⟩
 ·have hgB:B<=g:=by
   obtain⟨_,k⟩:=uh HO
   rcases k with⟨k,_⟩ | ⟨g',cap',cur,e',hB',_⟩
   ·cases k
   ·cases e';exact hB'
  go_enter Tryz.func23,Tryz.ntmps23
  go_wp2
  go_loopw [2] (fun i wr=>∃ (k:Nat) (ys:List Value),k<=n/\i=.int .i64 k/\Hid (SF B spA w wr)/\Hid (wr.ownsRow B 29 19 (.slice (some ⟨g,0,none⟩) n cap) n ys)/\Hid (∀ j,k * 19<=j->ys[j]?=(qs.flatMap Pkv.cells)[j]?)/\Hid (∀ (i:Nat) (q:Pkv),k<=i->qs[i]?=some q->SpOk wr B q)) (fun i _=>n - (intOf i).toNat)
  case atStart=>exact⟨0,_,Nat.zero_le _,rfl,SF.refl _ _ _,HO,fun _ _=>rfl,fun i q _ h=>(uh HK) i q h⟩
  case round =>
   obtain⟨k,ys,hk,rfl,HSF,HY,HYS,HKr⟩:=hrel
   clear HO HK
   by_cases hlt:k < n
   ·obtain⟨q,hq⟩:∃ q,qs[k]?=some q:=⟨_,List.getElem?_eq_getElem (by rw[uh HQL];exact hlt)⟩
    have HRG:Hid (wr.rangeAt g (k * 19) q.cells):=fun j u hu=>by
     have hj:j < 19:=(List.getElem?_eq_some_iff.1 hu).1
     rw[(uh HY).cellAt (k * 19+j) (by omega),(uh HYS) (k * 19+j) (by omega),pcs_get qs k q hq j hj]
     exact hu
    have hBr:B<=wr.heap.size:=Nat.le_trans hB (uh HSF).size
    have HPS:Hid (Calls Tryz.prog 12 #[.agg q.cells.toArray] wr fun e w'=>e=.returned (.tuple #[])/\SF B (spT q.wills.val.ownBlock) wr w'):=packet_sf B q wr hBr ((uh HKr) k q (Nat.le_refl _) hq)
    have HQ:=zh hq
    clear hq
    go_upto_region 3 with fail
    iterate 10 go_step
    refine wpList_load_mid rfl 29 _ rfl g (k * 19) rfl q.cells _ (uh HRG) Tryz.underlying29 rfl packet_size ?_
    simp only[Act.put,List.setIfInBounds_toArray,List.set_cons_zero,List.set_cons_succ]
    go_wp2_with fail
    refine (uh HPS).mono ?_
    rintro e w2 ⟨rfl,hsf⟩
    have HSF2:Hid (SF B spA w w2):=(uh HSF).trans (hsf.weak (spT_A _))
    have HY2:Hid (w2.ownsRow B 29 19 (.slice (some ⟨g,0,none⟩) n cap) n ys):=owns_sf (uh HY) hsf (fun _ _=>pk_ne _ _)
    have HK2:Hid (∀ (i:Nat) (q':Pkv),k+1<=i->qs[i]?=some q'->SpOk w2 B q'):=fun i q' hi hq' =>
     ((uh HKr) i q' (by omega) hq').sf hsf (fun g' hg' ht=>(uh HD) k i q q' g' (by omega) (uh HQ) hq' (spT_will ht) hg')
    clear hsf HPS HRG HSF HY HKr
    have HTH:Hid (w2.there g (k * 19) (pk0 99 false 0 false).cells.toArray.size):=fun j hj=>by
     have hj:j < 19:=hj
     have hl:ys.length=n * 19:=(uh HY2).1
     refine⟨?_,(uh HY2).frozenAt (k * 19+j)⟩
     rw[(uh HY2).cellAt (k * 19+j) (by omega),List.getElem?_eq_getElem (by omega)]
     rfl
    go_upto_region 4 with fail
    iterate 7 go_step
    refine Go.Proofs.YtpheelbbpiieiaaGreatDoor.wpList_value rfl (packet_build1 _ _ _ _ _ _ 99 rfl _) ?_
    simp only[Act.put,List.setIfInBounds_toArray,List.set_cons_zero,List.set_cons_succ]
    iterate 3 go_step
    refine wpList_store_mid rfl 29 _ _ rfl g (k * 19) (pk0 99 false 0 false).cells.toArray rfl rfl (uh HTH) packet_size (Pkv.ones' _) ?_
    simp only[Act.put]
    have HSF3:Hid (SF B spA w (w2.setCells g (k * 19) (pk0 99 false 0 false).cells)):=SF.setCells g 29 hgB (.inl rfl) _ _ _ (uh HSF2) (OwnE.blk ⟨ys,uh HY2⟩).2
    have HSS:Hid (SF B (fun k t=>t=29) w2 (w2.setCells g (k * 19) (pk0 99 false 0 false).cells)):=SF.setCells g 29 hgB rfl _ _ _ (SF.refl _ _ _) (OwnE.blk ⟨ys,uh HY2⟩).2
    obtain⟨zs,hz,hzs⟩:=owns_setCells (pk0 99 false 0 false).cells (k * 19) w2 ys (uh HY2)
    have HZ:=zh hz
    have HZS:Hid (∀ j,(k+1) * 19<=j->zs[j]?=(qs.flatMap Pkv.cells)[j]?):=fun j hj=>by
     rw[hzs j (by show k * 19+19<=j;omega)]
     exact (uh HYS) j (by omega)
    have HK3:Hid (∀ (i:Nat) (q':Pkv),k+1<=i->qs[i]?=some q'->SpOk (w2.setCells g (k * 19) (pk0 99 false 0 false).cells) B q'):=fun i q' hi hq' =>
     ((uh HK2) i q' hi hq').sf (uh HSS) (fun _ _=>by decide)
    clear hz hzs HTH HSF2 HY2 HK2 HSS HYS
    generalize w2.setCells g (k * 19) (pk0 99 false 0 false).cells=w3 at HSF3 HZ HK3 |-
    go_wp2
    go_roundw
    case rel=>exact⟨k+1,zs,by omega,by go_num,HSF3,HZ,HZS,HK3⟩
    case measure=>simp[intOf];omega
   ·have HAPP:=zh (papp B n _ w wr i0 hi hz0 hz1 hz2 hn hB (uh HSF) ⟨ys,uh HY⟩)
    clear HSF HY HYS HKr HD HQL
    go_upto_region 5 with fail
    iterate 4 go_step
    refine Go.Proofs.YtpheelbbpiieiaaGreatDoor.wpList_value rfl (packet_build0 _ _ _ _ _ _) ?_
    simp only[Act.put,List.setIfInBounds_toArray,List.set_cons_zero,List.set_cons_succ]
    refine Go.Proofs.YtpheelbbpiieiaaGreatDoor.wpList_value rfl (pk_slice _ _ _ _ _ _ pkz rfl _) ?_
    simp only[Act.put,List.setIfInBounds_toArray,List.set_cons_zero,List.set_cons_succ]
    refine wpList_append_run _ (Z:=fun _ w'=>SF B spA w w') rfl _ _ 52 52 rfl _ _ rfl rfl ((uh HAPP) _) ?_
    intro v' w1 hsf
    have HSF1:=zh hsf
    clear hsf HAPP
    simp only[Act.put,List.setIfInBounds_toArray,List.set_cons_zero,List.set_cons_succ]
    go_wp2
    go_end0
    exact⟨rfl,uh HSF1⟩
end Go.Proofs.YtpheelbbpiieiaaGreatDoor.K
