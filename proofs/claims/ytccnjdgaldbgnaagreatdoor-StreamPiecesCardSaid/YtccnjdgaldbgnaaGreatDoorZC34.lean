/- Proved here: helpers, one text behind the other. -/
import Derived.Test.YtccnjdgaldbgnaaGreatDoorZC33
import Derived.Test.YtccnjdgaldbgnaaGreatDoorZC25
import Derived.Test.YtccnjdgaldbgnaaGreatDoorZC20
import Derived.Handy
import Derived.Test.YtccnjdgaldbgnaaGreatDoorZC8
import Derived.Deep.RegionHeld3
import Derived.Test.YtccnjdgaldbgnaaGreatDoorZC22
set_option maxHeartbeats 20000000
namespace Go.Proofs.YtccnjdgaldbgnaaGreatDoor.K
open Go.RowKit
set_option maxRecDepth 100000
theorem WQ.set {w0 w:World} {W:Nat} {p:Pkv} {st:Option (List Int)} {m:Nat} (h:WQ w0 w W p st m) (q:Pkv) (i:Nat) (hi:i < 19) (hq:∀ j,j≠i->q.cell j=p.cell j):WQ w0 (w.setCell ⟨W,i,none⟩ (q.cell i)) W q st m:=by
 obtain⟨h1,h2,h3,bv,sz,T,E,h4,h5,h6,h7⟩:=h
 have hx:BX W (fun j=>j=i) w (w.setCell ⟨W,i,none⟩ (q.cell i)):=(BX.refl _ _ _).set i _ rfl
 have ne:∀ j,19<=j->(⟨W,i,none⟩:Addr)≠⟨W,j,none⟩:=fun j hj e=>by injection e with _ e;omega
 obtain⟨⟨a1,a2⟩,⟨b1,b2⟩,c1,c2⟩:=h4.wt
 refine⟨⟨h1.os,h1.tape,h1.output,by simpa [World.setCell] using h1.size,fun k hk=>(Below.heap_setCell _ _ _ _ (by show k≠W;omega)).trans (h1.block k hk)⟩,h2,h3.set q i hi hq,bv,sz,T,E,h4.bx hx ⟨⟨(World.cell?_setCell_other _ _ _ _ (ne 19 (by omega))).trans a1,by simpa using a2⟩,⟨(World.cell?_setCell_other _ _ _ _ (ne 20 (by omega))).trans b1,by simpa using b2⟩,(World.cell?_setCell_other _ _ _ _ (ne 21 (by omega))).trans c1,by simpa using c2⟩,h5,h6,h7.fw (FB.of_bx hx)⟩
theorem take_bool (W j:Nat) (x:Bool) (w:World) (hc:w.cell? ⟨W,j,none⟩=some (.bool x)) (hf:w.frozen? ⟨W,j,none⟩=false):Calls Tryz.prog 37 #[.pointer (some ⟨W,j,none⟩)] w fun e w'=>e=.returned (.bool x)/\w'=w.setCell ⟨W,j,none⟩ (.bool false):=by
 go_enter Tryz.func37,Tryz.ntmps37
 go_wp2
 go_ret
 exact⟨rfl,rfl⟩
theorem take_int (W j:Nat) (x:Int) (w:World) (hc:w.cell? ⟨W,j,none⟩=some (.int .i64 x)) (hf:w.frozen? ⟨W,j,none⟩=false):Calls Tryz.prog 38 #[.pointer (some ⟨W,j,none⟩)] w fun e w'=>e=.returned (.int .i64 x)/\w'=w.setCell ⟨W,j,none⟩ (.int .i64 0):=by
 go_enter Tryz.func38,Tryz.ntmps38
 go_wp2
 go_ret
 exact⟨rfl,rfl⟩
theorem take_str (W j:Nat) (x:ByteArray) (w:World) (hc:w.cell? ⟨W,j,none⟩=some (.string x)) (hf:w.frozen? ⟨W,j,none⟩=false):Calls Tryz.prog 59 #[.pointer (some ⟨W,j,none⟩)] w fun e w'=>e=.returned (.string x)/\w'=w.setCell ⟨W,j,none⟩ (.string ⟨#[]⟩):=by
 go_enter Tryz.func59,Tryz.ntmps59
 go_wp2
 go_ret
 exact⟨rfl,rfl⟩
theorem take_props (W j:Nat) (x:Sl) (w:World) (hc:w.cell? ⟨W,j,none⟩=some (x.val)) (hf:w.frozen? ⟨W,j,none⟩=false):Calls Tryz.prog 40 #[.pointer (some ⟨W,j,none⟩)] w fun e w'=>e=.returned (x.val)/\w'=w.setCell ⟨W,j,none⟩ (sl0.val):=by
 obtain⟨a,n,c⟩:=x
 have hc:w.cell? ⟨W,j,none⟩=some (.slice a n c):=hc
 go_enter Tryz.func40,Tryz.ntmps40
 go_wp2
 go_ret
 exact⟨rfl,rfl⟩
theorem take_wills (W j:Nat) (x:Sl) (w:World) (hc:w.cell? ⟨W,j,none⟩=some (x.val)) (hf:w.frozen? ⟨W,j,none⟩=false):Calls Tryz.prog 60 #[.pointer (some ⟨W,j,none⟩)] w fun e w'=>e=.returned (x.val)/\w'=w.setCell ⟨W,j,none⟩ (sl0.val):=by
 obtain⟨a,n,c⟩:=x
 have hc:w.cell? ⟨W,j,none⟩=some (.slice a n c):=hc
 go_enter Tryz.func60,Tryz.ntmps60
 go_wp2
 go_ret
 exact⟨rfl,rfl⟩
theorem take_strs (W j:Nat) (x:Sl) (w:World) (hc:w.cell? ⟨W,j,none⟩=some (x.val)) (hf:w.frozen? ⟨W,j,none⟩=false):Calls Tryz.prog 62 #[.pointer (some ⟨W,j,none⟩)] w fun e w'=>e=.returned (x.val)/\w'=w.setCell ⟨W,j,none⟩ (sl0.val):=by
 obtain⟨a,n,c⟩:=x
 have hc:w.cell? ⟨W,j,none⟩=some (.slice a n c):=hc
 go_enter Tryz.func62,Tryz.ntmps62
 go_wp2
 go_ret
 exact⟨rfl,rfl⟩
theorem take_subs (W j:Nat) (x:Sl) (w:World) (hc:w.cell? ⟨W,j,none⟩=some (x.val)) (hf:w.frozen? ⟨W,j,none⟩=false):Calls Tryz.prog 66 #[.pointer (some ⟨W,j,none⟩)] w fun e w'=>e=.returned (x.val)/\w'=w.setCell ⟨W,j,none⟩ (sl0.val):=by
 obtain⟨a,n,c⟩:=x
 have hc:w.cell? ⟨W,j,none⟩=some (.slice a n c):=hc
 go_enter Tryz.func66,Tryz.ntmps66
 go_wp2
 go_ret
 exact⟨rfl,rfl⟩
theorem take_ints (W j:Nat) (x:Sl) (w:World) (hc:w.cell? ⟨W,j,none⟩=some (x.val)) (hf:w.frozen? ⟨W,j,none⟩=false):Calls Tryz.prog 69 #[.pointer (some ⟨W,j,none⟩)] w fun e w'=>e=.returned (x.val)/\w'=w.setCell ⟨W,j,none⟩ (sl0.val):=by
 obtain⟨a,n,c⟩:=x
 have hc:w.cell? ⟨W,j,none⟩=some (.slice a n c):=hc
 go_enter Tryz.func69,Tryz.ntmps69
 go_wp2
 go_ret
 exact⟨rfl,rfl⟩
def Pkv.no_qos (p:Pkv):Pkv:={ p with qos:=0 }
def Pkv.no_topic (p:Pkv):Pkv:={ p with topic:=⟨#[]⟩ }
def Pkv.no_id (p:Pkv):Pkv:={ p with id:=0 }
def Pkv.no_payload (p:Pkv):Pkv:={ p with payload:=⟨#[]⟩ }
def Pkv.no_props (p:Pkv):Pkv:={ p with props:=sl0 }
def Pkv.no_client (p:Pkv):Pkv:={ p with client:=⟨#[]⟩ }
def Pkv.no_keep (p:Pkv):Pkv:={ p with keep:=0 }
def Pkv.no_wills (p:Pkv):Pkv:={ p with wills:=sl0 }
def Pkv.no_user (p:Pkv):Pkv:={ p with user:=sl0 }
def Pkv.no_pass (p:Pkv):Pkv:={ p with pass:=sl0 }
def Pkv.no_code (p:Pkv):Pkv:={ p with code:=0 }
def Pkv.no_session (p:Pkv):Pkv:={ p with session:=false }
def Pkv.no_subs (p:Pkv):Pkv:={ p with subs:=sl0 }
def Pkv.no_filters (p:Pkv):Pkv:={ p with filters:=sl0 }
def Pkv.no_codes (p:Pkv):Pkv:={ p with codes:=sl0 }
def Pkv.no_dup (p:Pkv):Pkv:={ p with dup:=false }
def Pkv.no_retain (p:Pkv):Pkv:={ p with retain:=false }
def Pkv.no_clean (p:Pkv):Pkv:={ p with clean:=false }
theorem take_qos_q {w0 w:World} {W:Nat} {p:Pkv} {st:Option (List Int)} {m:Nat} (h:WQ w0 w W p st m) (x:Int) (hx:p.qos=x):Calls Tryz.prog 38 #[.pointer (some ⟨W,2,none⟩)] w fun e w'=>e=.returned (.int .i64 x)/\WQ w0 w' W p.no_qos st m:=by
 subst hx
 refine (take_int W 2 p.qos w h.pk.qos h.pk.qos_f).mono ?_
 rintro e w' ⟨rfl,rfl⟩
 exact⟨rfl,h.set p.no_qos 2 (by omega) (fun j hj=>by unfold Pkv.no_qos Pkv.cell;split <;> first | rfl | exact absurd rfl hj)⟩
theorem take_topic_q {w0 w:World} {W:Nat} {p:Pkv} {st:Option (List Int)} {m:Nat} (h:WQ w0 w W p st m) (x:ByteArray) (hx:p.topic=x):Calls Tryz.prog 59 #[.pointer (some ⟨W,4,none⟩)] w fun e w'=>e=.returned (.string x)/\WQ w0 w' W p.no_topic st m:=by
 subst hx
 refine (take_str W 4 p.topic w h.pk.topic h.pk.topic_f).mono ?_
 rintro e w' ⟨rfl,rfl⟩
 exact⟨rfl,h.set p.no_topic 4 (by omega) (fun j hj=>by unfold Pkv.no_topic Pkv.cell;split <;> first | rfl | exact absurd rfl hj)⟩
theorem take_id_q {w0 w:World} {W:Nat} {p:Pkv} {st:Option (List Int)} {m:Nat} (h:WQ w0 w W p st m) (x:Int) (hx:p.id=x):Calls Tryz.prog 38 #[.pointer (some ⟨W,5,none⟩)] w fun e w'=>e=.returned (.int .i64 x)/\WQ w0 w' W p.no_id st m:=by
 subst hx
 refine (take_int W 5 p.id w h.pk.id h.pk.id_f).mono ?_
 rintro e w' ⟨rfl,rfl⟩
 exact⟨rfl,h.set p.no_id 5 (by omega) (fun j hj=>by unfold Pkv.no_id Pkv.cell;split <;> first | rfl | exact absurd rfl hj)⟩
theorem take_payload_q {w0 w:World} {W:Nat} {p:Pkv} {st:Option (List Int)} {m:Nat} (h:WQ w0 w W p st m) (x:ByteArray) (hx:p.payload=x):Calls Tryz.prog 59 #[.pointer (some ⟨W,6,none⟩)] w fun e w'=>e=.returned (.string x)/\WQ w0 w' W p.no_payload st m:=by
 subst hx
 refine (take_str W 6 p.payload w h.pk.payload h.pk.payload_f).mono ?_
 rintro e w' ⟨rfl,rfl⟩
 exact⟨rfl,h.set p.no_payload 6 (by omega) (fun j hj=>by unfold Pkv.no_payload Pkv.cell;split <;> first | rfl | exact absurd rfl hj)⟩
theorem take_props_q {w0 w:World} {W:Nat} {p:Pkv} {st:Option (List Int)} {m:Nat} (h:WQ w0 w W p st m) (x:Sl) (hx:p.props=x):Calls Tryz.prog 40 #[.pointer (some ⟨W,7,none⟩)] w fun e w'=>e=.returned (x.val)/\WQ w0 w' W p.no_props st m:=by
 subst hx
 refine (take_props W 7 p.props w h.pk.props h.pk.props_f).mono ?_
 rintro e w' ⟨rfl,rfl⟩
 exact⟨rfl,h.set p.no_props 7 (by omega) (fun j hj=>by unfold Pkv.no_props Pkv.cell;split <;> first | rfl | exact absurd rfl hj)⟩
theorem take_client_q {w0 w:World} {W:Nat} {p:Pkv} {st:Option (List Int)} {m:Nat} (h:WQ w0 w W p st m) (x:ByteArray) (hx:p.client=x):Calls Tryz.prog 59 #[.pointer (some ⟨W,8,none⟩)] w fun e w'=>e=.returned (.string x)/\WQ w0 w' W p.no_client st m:=by
 subst hx
 refine (take_str W 8 p.client w h.pk.client h.pk.client_f).mono ?_
 rintro e w' ⟨rfl,rfl⟩
 exact⟨rfl,h.set p.no_client 8 (by omega) (fun j hj=>by unfold Pkv.no_client Pkv.cell;split <;> first | rfl | exact absurd rfl hj)⟩
theorem take_keep_q {w0 w:World} {W:Nat} {p:Pkv} {st:Option (List Int)} {m:Nat} (h:WQ w0 w W p st m) (x:Int) (hx:p.keep=x):Calls Tryz.prog 38 #[.pointer (some ⟨W,10,none⟩)] w fun e w'=>e=.returned (.int .i64 x)/\WQ w0 w' W p.no_keep st m:=by
 subst hx
 refine (take_int W 10 p.keep w h.pk.keep h.pk.keep_f).mono ?_
 rintro e w' ⟨rfl,rfl⟩
 exact⟨rfl,h.set p.no_keep 10 (by omega) (fun j hj=>by unfold Pkv.no_keep Pkv.cell;split <;> first | rfl | exact absurd rfl hj)⟩
theorem take_wills_q {w0 w:World} {W:Nat} {p:Pkv} {st:Option (List Int)} {m:Nat} (h:WQ w0 w W p st m) (x:Sl) (hx:p.wills=x):Calls Tryz.prog 60 #[.pointer (some ⟨W,11,none⟩)] w fun e w'=>e=.returned (x.val)/\WQ w0 w' W p.no_wills st m:=by
 subst hx
 refine (take_wills W 11 p.wills w h.pk.wills h.pk.wills_f).mono ?_
 rintro e w' ⟨rfl,rfl⟩
 exact⟨rfl,h.set p.no_wills 11 (by omega) (fun j hj=>by unfold Pkv.no_wills Pkv.cell;split <;> first | rfl | exact absurd rfl hj)⟩
theorem take_user_q {w0 w:World} {W:Nat} {p:Pkv} {st:Option (List Int)} {m:Nat} (h:WQ w0 w W p st m) (x:Sl) (hx:p.user=x):Calls Tryz.prog 62 #[.pointer (some ⟨W,12,none⟩)] w fun e w'=>e=.returned (x.val)/\WQ w0 w' W p.no_user st m:=by
 subst hx
 refine (take_strs W 12 p.user w h.pk.user h.pk.user_f).mono ?_
 rintro e w' ⟨rfl,rfl⟩
 exact⟨rfl,h.set p.no_user 12 (by omega) (fun j hj=>by unfold Pkv.no_user Pkv.cell;split <;> first | rfl | exact absurd rfl hj)⟩
theorem take_pass_q {w0 w:World} {W:Nat} {p:Pkv} {st:Option (List Int)} {m:Nat} (h:WQ w0 w W p st m) (x:Sl) (hx:p.pass=x):Calls Tryz.prog 62 #[.pointer (some ⟨W,13,none⟩)] w fun e w'=>e=.returned (x.val)/\WQ w0 w' W p.no_pass st m:=by
 subst hx
 refine (take_strs W 13 p.pass w h.pk.pass h.pk.pass_f).mono ?_
 rintro e w' ⟨rfl,rfl⟩
 exact⟨rfl,h.set p.no_pass 13 (by omega) (fun j hj=>by unfold Pkv.no_pass Pkv.cell;split <;> first | rfl | exact absurd rfl hj)⟩
theorem take_code_q {w0 w:World} {W:Nat} {p:Pkv} {st:Option (List Int)} {m:Nat} (h:WQ w0 w W p st m) (x:Int) (hx:p.code=x):Calls Tryz.prog 38 #[.pointer (some ⟨W,14,none⟩)] w fun e w'=>e=.returned (.int .i64 x)/\WQ w0 w' W p.no_code st m:=by
 subst hx
 refine (take_int W 14 p.code w h.pk.code h.pk.code_f).mono ?_
 rintro e w' ⟨rfl,rfl⟩
 exact⟨rfl,h.set p.no_code 14 (by omega) (fun j hj=>by unfold Pkv.no_code Pkv.cell;split <;> first | rfl | exact absurd rfl hj)⟩
theorem take_session_q {w0 w:World} {W:Nat} {p:Pkv} {st:Option (List Int)} {m:Nat} (h:WQ w0 w W p st m) (x:Bool) (hx:p.session=x):Calls Tryz.prog 37 #[.pointer (some ⟨W,15,none⟩)] w fun e w'=>e=.returned (.bool x)/\WQ w0 w' W p.no_session st m:=by
 subst hx
 refine (take_bool W 15 p.session w h.pk.session h.pk.session_f).mono ?_
 rintro e w' ⟨rfl,rfl⟩
 exact⟨rfl,h.set p.no_session 15 (by omega) (fun j hj=>by unfold Pkv.no_session Pkv.cell;split <;> first | rfl | exact absurd rfl hj)⟩
theorem take_subs_q {w0 w:World} {W:Nat} {p:Pkv} {st:Option (List Int)} {m:Nat} (h:WQ w0 w W p st m) (x:Sl) (hx:p.subs=x):Calls Tryz.prog 66 #[.pointer (some ⟨W,16,none⟩)] w fun e w'=>e=.returned (x.val)/\WQ w0 w' W p.no_subs st m:=by
 subst hx
 refine (take_subs W 16 p.subs w h.pk.subs h.pk.subs_f).mono ?_
 rintro e w' ⟨rfl,rfl⟩
 exact⟨rfl,h.set p.no_subs 16 (by omega) (fun j hj=>by unfold Pkv.no_subs Pkv.cell;split <;> first | rfl | exact absurd rfl hj)⟩
theorem take_filters_q {w0 w:World} {W:Nat} {p:Pkv} {st:Option (List Int)} {m:Nat} (h:WQ w0 w W p st m) (x:Sl) (hx:p.filters=x):Calls Tryz.prog 62 #[.pointer (some ⟨W,17,none⟩)] w fun e w'=>e=.returned (x.val)/\WQ w0 w' W p.no_filters st m:=by
 subst hx
 refine (take_strs W 17 p.filters w h.pk.filters h.pk.filters_f).mono ?_
 rintro e w' ⟨rfl,rfl⟩
 exact⟨rfl,h.set p.no_filters 17 (by omega) (fun j hj=>by unfold Pkv.no_filters Pkv.cell;split <;> first | rfl | exact absurd rfl hj)⟩
theorem take_codes_q {w0 w:World} {W:Nat} {p:Pkv} {st:Option (List Int)} {m:Nat} (h:WQ w0 w W p st m) (x:Sl) (hx:p.codes=x):Calls Tryz.prog 69 #[.pointer (some ⟨W,18,none⟩)] w fun e w'=>e=.returned (x.val)/\WQ w0 w' W p.no_codes st m:=by
 subst hx
 refine (take_ints W 18 p.codes w h.pk.codes h.pk.codes_f).mono ?_
 rintro e w' ⟨rfl,rfl⟩
 exact⟨rfl,h.set p.no_codes 18 (by omega) (fun j hj=>by unfold Pkv.no_codes Pkv.cell;split <;> first | rfl | exact absurd rfl hj)⟩
theorem WQ.no_dup {w0 w:World} {W:Nat} {p:Pkv} {st:Option (List Int)} {m:Nat} (h:WQ w0 w W p st m):WQ w0 (w.setCell ⟨W,1,none⟩ (.bool false)) W p.no_dup st m :=
 h.set p.no_dup 1 (by omega) (fun j hj=>by unfold Pkv.no_dup Pkv.cell;split <;> first | rfl | exact absurd rfl hj)
theorem WQ.no_retain {w0 w:World} {W:Nat} {p:Pkv} {st:Option (List Int)} {m:Nat} (h:WQ w0 w W p st m):WQ w0 (w.setCell ⟨W,3,none⟩ (.bool false)) W p.no_retain st m :=
 h.set p.no_retain 3 (by omega) (fun j hj=>by unfold Pkv.no_retain Pkv.cell;split <;> first | rfl | exact absurd rfl hj)
theorem WQ.no_clean {w0 w:World} {W:Nat} {p:Pkv} {st:Option (List Int)} {m:Nat} (h:WQ w0 w W p st m):WQ w0 (w.setCell ⟨W,9,none⟩ (.bool false)) W p.no_clean st m :=
 h.set p.no_clean 9 (by omega) (fun j hj=>by unfold Pkv.no_clean Pkv.cell;split <;> first | rfl | exact absurd rfl hj)
theorem eqp_any (va vb:Value) (l m:List Pr) (w:World) (ha:Prp w va l) (hb:Prp w vb m) (hmx:l.length<=1000000000) :
  Calls Tryz.prog 27 #[va,vb] w fun e w'=>(∃ b,e=.returned (.bool b)/\(b=true ↔ l=m))/\∃ k,w'=w.drewN k:=by
 obtain⟨ao,ca,rfl,ha⟩:=ha
 obtain⟨bo,cb,rfl,hb⟩:=hb
 by_cases hl:l.length=m.length
 ·rcases ha with rfl | ⟨ba,oa,rfl,hca⟩
  ·obtain rfl:m=[]:=List.length_eq_zero_iff.1 hl.symm
   refine (eqp_nil _ _ _ _ _).mono ?_
   rintro e w' ⟨rfl,rfl⟩
   exact⟨⟨true,rfl,by simp⟩,0,rfl⟩
  ·rcases hb with rfl | ⟨bb,ob,rfl,hcb⟩
   ·obtain rfl:l=[]:=List.length_eq_zero_iff.1 hl
    refine (eqp_nil _ _ _ _ _).mono ?_
    rintro e w' ⟨rfl,rfl⟩
    exact⟨⟨true,rfl,by simp⟩,0,rfl⟩
   ·rw[<- hl]
    refine (eqp_core ba oa bb ob ca cb l m l.length w rfl hl.symm hmx hca hcb).mono ?_
    rintro e w' ⟨⟨b,rfl,hbb⟩,k,rfl⟩
    exact⟨⟨b,rfl,hbb.trans ⟨fun h=>at0_ext hl h,fun h j _=>by rw[h]⟩⟩,k,rfl⟩
 ·refine (eqp_len ao bo l.length m.length ca cb w hl).mono ?_
  rintro e w' ⟨rfl,rfl⟩
  exact⟨⟨false,rfl,by constructor;(intro h;cases h);(intro h;exact absurd (by rw[h]) hl)⟩,0,rfl⟩
theorem eqw_any (t t' p p':ByteArray) (q q':Int) (r r':Bool) (ao ao':Option Addr) (n n' cap cap':Nat) (l l':List Pr) (w:World) (ha:Prp w (.slice ao n cap) l) (hb:Prp w (.slice ao' n' cap') l') (hmx:l.length<=1000000000) :
  Calls Tryz.prog 55 #[.agg #[.string t,.string p,.int .i64 q,.bool r,.slice ao n cap],.agg #[.string t',.string p',.int .i64 q',.bool r',.slice ao' n' cap']] w fun e w'=>(∃ b,e=.returned (.bool b)/\(b=true ↔ (t=t'/\p=p'/\q=q'/\r=r'/\l=l')))/\Below w.heap.size w w':=by
 have HA:=zh ha
 have HB:=zh hb
 clear ha hb
 by_cases h0:t=t'
 ·have k0:(t.toList == t'.toList)=true:=by rw[h0];exact beq_self_eq_true _
  have H0:=zh h0
  clear h0
  by_cases h1:p=p'
  ·have k1:(p.toList == p'.toList)=true:=by rw[h1];exact beq_self_eq_true _
   have H1:=zh h1
   clear h1
   by_cases h2:q=q'
   ·have k2:(q == q')=true:=by rw[h2];exact beq_self_eq_true _
    have H2:=zh h2
    clear h2
    by_cases h3:r=r'
    ·have k3:(r == r')=true:=by rw[h3];exact beq_self_eq_true _
     have H3:=zh h3
     clear h3
     go_enter Tryz.func55,Tryz.ntmps55
     go_wp2_with fail
     refine (eqp_any _ _ l l' _ ((uh HA).below (by go_grown)) ((uh HB).below (by go_grown)) hmx).mono ?_
     rintro e w1 ⟨⟨b,rfl,hbb⟩,k,rfl⟩
     have HBB:=zh hbb
     clear hbb
     cases b
     ·go_wp2
      go_ret
      exact⟨⟨false,rfl,by constructor;(intro h;cases h);(intro h;exact (uh HBB).2 h.2.2.2.2)⟩,below_drewN (by go_grown) k⟩
     ·go_wp2
      go_ret
      exact⟨⟨true,rfl,fun _=>⟨uh H0,uh H1,uh H2,uh H3,(uh HBB).1 trivial⟩,fun _=>rfl⟩,below_drewN (by go_grown) k⟩
    ·have k3:(r == r')=false:=beq_eq_false_iff_ne.2 (h3)
     have H3:=zh h3
     clear h3
     go_enter Tryz.func55,Tryz.ntmps55
     go_wp2
     go_ret
     exact⟨⟨false,rfl,by constructor;(intro h;cases h);(intro h;exact absurd h.2.2.2.1 (uh H3))⟩,by go_grown⟩
   ·have k2:(q == q')=false:=beq_eq_false_iff_ne.2 (h2)
    have H2:=zh h2
    clear h2
    go_enter Tryz.func55,Tryz.ntmps55
    go_wp2
    go_ret
    exact⟨⟨false,rfl,by constructor;(intro h;cases h);(intro h;exact absurd h.2.2.1 (uh H2))⟩,by go_grown⟩
  ·have k1:(p.toList == p'.toList)=false:=beq_eq_false_iff_ne.2 (fun e=>h1 (text_ext e))
   have H1:=zh h1
   clear h1
   go_enter Tryz.func55,Tryz.ntmps55
   go_wp2
   go_ret
   exact⟨⟨false,rfl,by constructor;(intro h;cases h);(intro h;exact absurd h.2.1 (uh H1))⟩,by go_grown⟩
 ·have k0:(t.toList == t'.toList)=false:=beq_eq_false_iff_ne.2 (fun e=>h0 (text_ext e))
  have H0:=zh h0
  clear h0
  go_enter Tryz.func55,Tryz.ntmps55
  go_wp2
  go_ret
  exact⟨⟨false,rfl,by constructor;(intro h;cases h);(intro h;exact absurd h.1 (uh H0))⟩,by go_grown⟩
abbrev wl0:Wl:=⟨⟨#[]⟩,⟨#[]⟩,0,false,[]⟩
def WlIs (w:World) (b off:Nat) (u:Wl):Prop:=∃ ao n cap,(w.cell? ⟨b,off,none⟩=some (.string u.topic)/\w.cell? ⟨b,off+1,none⟩=some (.string u.payload)/\w.cell? ⟨b,off+2,none⟩=some (.int .i64 u.qos)/\w.cell? ⟨b,off+3,none⟩=some (.bool u.retain)/\w.cell? ⟨b,off+4,none⟩=some (.slice ao n cap))/\Prp w (.slice ao n cap) u.props/\u.props.length<=1000000000
def WlAt (w:World) (b off:Nat) (us:List Wl):Prop:=∀ k,k < us.length->WlIs w b (off+k * 5) (us.getD k wl0)
theorem WlIs.below {w w':World} {b off:Nat} {u:Wl} (h:WlIs w b off u) (hb:Below w.heap.size w w'):WlIs w' b off u:=by
 obtain⟨ao,n,cap,⟨h0,h1,h2,h3,h4⟩,h5,h6⟩:=h
 have hl:b < w.heap.size:=cell_lt h0
 exact⟨ao,n,cap,⟨(hb.cell hl).trans h0,(hb.cell hl).trans h1,(hb.cell hl).trans h2,(hb.cell hl).trans h3,(hb.cell hl).trans h4⟩,h5.below hb,h6⟩
theorem wl_eq (u v:Wl):u=v ↔ (u.topic=v.topic/\u.payload=v.payload/\u.qos=v.qos/\u.retain=v.retain/\u.props=v.props):=by
 obtain⟨a,b,c,d,e⟩:=u
 obtain⟨a',b',c',d',e'⟩:=v
 simp
theorem eqws_core (ba oa bb ob ca cb:Nat) (l m:List Wl) (len:Nat) (w:World) (hl:l.length=len) (hm:m.length=len) (hmx:len<=1000000000) (ha:WlAt w ba oa l) (hb:WlAt w bb ob m) :
  Calls Tryz.prog 28 #[.slice (some ⟨ba,oa,none⟩) len ca,.slice (some ⟨bb,ob,none⟩) len cb] w fun e w'=>(∃ b,e=.returned (.bool b)/\(b=true ↔ ∀ j,j < len->l.getD j wl0=m.getD j wl0))/\Below w.heap.size w w':=by
 have HL:=zh hl
 have HM:=zh hm
 have HA:=zh ha
 have HB:=zh hb
 clear hl hm ha hb
 go_enter Tryz.func28,Tryz.ntmps28
 go_wp2
 go_loopw [5] (fun i wr=>∃ k:Nat,k<=len/\i=.int .i64 k/\Hid (∀ j,j < k->l.getD j wl0=m.getD j wl0)/\Hid (Below w.heap.size w wr)) (fun i _=>len - (intOf i).toNat)
 case atStart=>exact⟨0,Nat.zero_le _,rfl,fun j hj=>absurd hj (Nat.not_lt_zero j),Below.refl _ _⟩
 case round =>
  obtain⟨k,hk,rfl,HALL,HBEL⟩:=hrel
  by_cases hlt:k < len
  ·have hx:=((uh HA) k (by rw[uh HL];exact hlt)).below (uh HBEL)
   have hy:=((uh HB) k (by rw[uh HM];exact hlt)).below (uh HBEL)
   have hwl:=wl_eq (l.getD k wl0) (m.getD k wl0)
   generalize hu:l.getD k wl0=u at hx hwl
   generalize hv:m.getD k wl0=v at hy hwl
   have HU:=zh hu
   have HV:=zh hv
   have HWL:=zh hwl
   clear hu hv hwl
   obtain⟨ao,n,cap,hc,hp,hq⟩:=hx
   obtain⟨ao',n',cap',hc',hp',hq'⟩:=hy
   have HP:=zh hp
   have HP':=zh hp'
   have HC:=zh hc
   have HC':=zh hc'
   have hlb:ba < wr.heap.size:=cell_lt hc.1
   have hlb':bb < wr.heap.size:=cell_lt hc'.1
   obtain⟨x1,x2,x3,x4,x5⟩:=hc
   obtain⟨y1,y2,y3,y4,y5⟩:=hc'
   clear hp hp'
   have HK:Hid (∀ W:World,Below wr.heap.size wr W->(fun w'=>(w'.cell? ⟨ba,oa+k * 5,none⟩=some (.string u.topic)/\w'.cell? ⟨ba,oa+k * 5+1,none⟩=some (.string u.payload)/\w'.cell? ⟨ba,oa+k * 5+2,none⟩=some (.int .i64 u.qos)/\w'.cell? ⟨ba,oa+k * 5+3,none⟩=some (.bool u.retain)/\w'.cell? ⟨ba,oa+k * 5+4,none⟩=some (.slice ao n cap))/\(w'.cell? ⟨bb,ob+k * 5,none⟩=some (.string v.topic)/\w'.cell? ⟨bb,ob+k * 5+1,none⟩=some (.string v.payload)/\w'.cell? ⟨bb,ob+k * 5+2,none⟩=some (.int .i64 v.qos)/\w'.cell? ⟨bb,ob+k * 5+3,none⟩=some (.bool v.retain)/\w'.cell? ⟨bb,ob+k * 5+4,none⟩=some (.slice ao' n' cap'))) W):=by
    intro W hW
    obtain⟨x1,x2,x3,x4,x5⟩:=uh HC
    obtain⟨y1,y2,y3,y4,y5⟩:=uh HC'
    exact⟨⟨(hW.cell hlb).trans x1,(hW.cell hlb).trans x2,(hW.cell hlb).trans x3,(hW.cell hlb).trans x4,(hW.cell hlb).trans x5⟩,(hW.cell hlb').trans y1,(hW.cell hlb').trans y2,(hW.cell hlb').trans y3,(hW.cell hlb').trans y4,(hW.cell hlb').trans y5⟩
   go_wp2_with fail
   go_region_held3 (fun w'=>(w'.cell? ⟨ba,oa+k * 5,none⟩=some (.string u.topic)/\w'.cell? ⟨ba,oa+k * 5+1,none⟩=some (.string u.payload)/\w'.cell? ⟨ba,oa+k * 5+2,none⟩=some (.int .i64 u.qos)/\w'.cell? ⟨ba,oa+k * 5+3,none⟩=some (.bool u.retain)/\w'.cell? ⟨ba,oa+k * 5+4,none⟩=some (.slice ao n cap))/\(w'.cell? ⟨bb,ob+k * 5,none⟩=some (.string v.topic)/\w'.cell? ⟨bb,ob+k * 5+1,none⟩=some (.string v.payload)/\w'.cell? ⟨bb,ob+k * 5+2,none⟩=some (.int .i64 v.qos)/\w'.cell? ⟨bb,ob+k * 5+3,none⟩=some (.bool v.retain)/\w'.cell? ⟨bb,ob+k * 5+4,none⟩=some (.slice ao' n' cap')))
    (first | exact (uh HK) _ (below_drewN (Below.refl _ _) 1) | exact (uh HK) _ (uh HB2) | exact (uh HK) _ (Below.refl _ _))
    (first | (go_at_call 55;refine (eqw_any u.topic v.topic u.payload v.payload u.qos v.qos u.retain v.retain ao ao' n n' cap cap' u.props v.props _ ((uh HP).below (below_drewN (Below.refl _ _) 1)) ((uh HP').below (below_drewN (Below.refl _ _) 1)) hq).mono ?_;rintro e w2 ⟨⟨bo,rfl,hbo⟩,hb2⟩;have HBO:=zh hbo;have HB2:Hid (Below wr.heap.size wr w2):=(below_drewN (Below.refl _ _) 1).trans hb2;clear hbo hb2) | fail)
   have HB3:Hid (Below w.heap.size w w2):=(uh HBEL).trans ((uh HB2).mono (uh HBEL).size)
   clear HK HC HC' x1 x2 x3 x4 x5 y1 y2 y3 y4 y5 HB2
   have HUV:Hid ((bo=true) ↔ u=v):=(uh HBO).trans (uh HWL).symm
   clear HBO HWL
   cases bo
   ·have HNE:Hid (l.getD k wl0≠m.getD k wl0):=fun e=>by
     rw[uh HU,uh HV]at e
     have:=(uh HUV).2 e
     cases this
    go_wp2
    go_ret
    refine⟨⟨_,rfl,?_⟩,uh HB3⟩
    constructor
    ·intro h;cases h
    ·intro h;exact absurd (h k hlt) (uh HNE)
   ·have HE:Hid (l.getD k wl0=m.getD k wl0):=by
     show _=_
     rw[uh HU,uh HV]
     exact (uh HUV).1 rfl
    go_wp2
    go_roundw
    case rel=>exact⟨k+1,by omega,by go_num,fun j hj=>by
     rcases Nat.lt_succ_iff_lt_or_eq.1 hj with h | h
     ·exact (uh HALL) j h
     ·rw[h];exact uh HE,HB3⟩
    case measure=>simp[intOf];omega
  ·go_wp2
   go_ret
   exact⟨⟨_,rfl,fun _ j hj=>(uh HALL) j (by omega),fun _=>rfl⟩,uh HBEL⟩
theorem eqws_len (ao bo:Option Addr) (n m ca cb:Nat) (w:World) (h:n≠m) :
  Calls Tryz.prog 28 #[.slice ao n ca,.slice bo m cb] w fun e w'=>e=.returned (.bool false)/\w'=w:=by
 have h1:((n:Int) == (m:Int))=false:=beq_eq_false_iff_ne.2 (by omega)
 go_enter Tryz.func28,Tryz.ntmps28
 go_wp2
 go_ret
 exact⟨rfl,rfl⟩
theorem eqws_nil (ao bo:Option Addr) (ca cb:Nat) (w:World) :
  Calls Tryz.prog 28 #[.slice ao 0 ca,.slice bo 0 cb] w fun e w'=>e=.returned (.bool true)/\w'=w:=by
 go_enter Tryz.func28,Tryz.ntmps28
 go_wp2
 refine wp_loop_rounds 1 ?_
 rw[rounds_succ]
 go_wp2
 go_ret
 exact⟨rfl,rfl⟩
def Wls (w:World) (v:Value) (l:List Wl):Prop:=∃ ao cap,v=.slice ao l.length cap/\(l.length<=cap/\cap<=maxLen)/\(l=[]\/∃ b off,ao=some ⟨b,off,none⟩/\WlAt w b off l)
theorem wl_ext {l m:List Wl} (hl:l.length=m.length) (h:∀ j,j < l.length->l.getD j wl0=m.getD j wl0):l=m:=by
 apply List.ext_getElem hl
 intro i h1 h2
 have:=h i h1
 rw[List.getD_eq_getElem?_getD,List.getD_eq_getElem?_getD,List.getElem?_eq_getElem h1,List.getElem?_eq_getElem h2]at this
 exact this
theorem eqws_any (va vb:Value) (l m:List Wl) (w:World) (ha:Wls w va l) (hb:Wls w vb m) (hmx:l.length<=1000000000) :
  Calls Tryz.prog 28 #[va,vb] w fun e w'=>(∃ b,e=.returned (.bool b)/\(b=true ↔ l=m))/\Below w.heap.size w w':=by
 obtain⟨ao,ca,rfl,_,ha⟩:=ha
 obtain⟨bo,cb,rfl,_,hb⟩:=hb
 by_cases hl:l.length=m.length
 ·rcases ha with rfl | ⟨ba,oa,rfl,hca⟩
  ·obtain rfl:m=[]:=List.length_eq_zero_iff.1 hl.symm
   refine (eqws_nil _ _ _ _ _).mono ?_
   rintro e w' ⟨rfl,rfl⟩
   exact⟨⟨true,rfl,by simp⟩,Below.refl _ _⟩
  ·rcases hb with rfl | ⟨bb,ob,rfl,hcb⟩
   ·obtain rfl:l=[]:=List.length_eq_zero_iff.1 hl
    refine (eqws_nil _ _ _ _ _).mono ?_
    rintro e w' ⟨rfl,rfl⟩
    exact⟨⟨true,rfl,by simp⟩,Below.refl _ _⟩
   ·rw[<- hl]
    refine (eqws_core ba oa bb ob ca cb l m l.length w rfl hl.symm hmx hca hcb).mono ?_
    rintro e w' ⟨⟨b,rfl,hbb⟩,hbel⟩
    exact⟨⟨b,rfl,hbb.trans ⟨fun h=>wl_ext hl h,fun h j _=>by rw[h]⟩⟩,hbel⟩
 ·refine (eqws_len ao bo l.length m.length ca cb w hl).mono ?_
  rintro e w' ⟨rfl,rfl⟩
  exact⟨⟨false,rfl,by constructor;(intro h;cases h);(intro h;exact absurd (by rw[h]) hl)⟩,Below.refl _ _⟩
abbrev sb0:Sb:=⟨⟨#[]⟩,0,false,false,0⟩
def SbAt (w:World) (b off:Nat) (l:List Sb):Prop:=∀ k,k < l.length->w.cell? ⟨b,off+k * 5,none⟩=some (.string (l.getD k sb0).filter)/\w.cell? ⟨b,off+k * 5+1,none⟩=some (.int .i64 (l.getD k sb0).qos)/\w.cell? ⟨b,off+k * 5+2,none⟩=some (.bool (l.getD k sb0).nolocal)/\w.cell? ⟨b,off+k * 5+3,none⟩=some (.bool (l.getD k sb0).aspub)/\w.cell? ⟨b,off+k * 5+4,none⟩=some (.int .i64 (l.getD k sb0).handling)
def Sbs (w:World) (v:Value) (l:List Sb):Prop:=∃ ao cap,v=.slice ao l.length cap/\(l.length<=cap/\cap<=maxLen)/\(l=[]\/∃ b off,ao=some ⟨b,off,none⟩/\SbAt w b off l)
theorem Tryz.eqgB:Tryz.prog.eqGuardType Tryz.prog.depth 122=false:=by kernel_rfl
theorem Tryz.stoodB:Tryz.prog.stoodInHeld 122=false:=by kernel_rfl
theorem Tryz.undB:Tryz.prog.underlying 122=some (.struct (Tryz.prog.fieldsOf 122)):=by kernel_rfl
def sameB (p q:Sb):Bool:=(p.filter.toList == q.filter.toList && p.qos == q.qos && p.nolocal == q.nolocal && p.aspub == q.aspub && p.handling == q.handling)
theorem neqB (f f':ByteArray) (q q' h h':Int) (n n' a a':Bool) (w:World):(binOp .neq 122 (.agg #[.string f,.int .i64 q,.bool n,.bool a,.int .i64 h]) (.agg #[.string f',.int .i64 q',.bool n',.bool a',.int .i64 h'])).run Tryz.prog w=.ok (.bool (!(sameB ⟨f,q,n,a,h⟩ ⟨f',q',n',a',h'⟩))) w:=by
 rw[run_neq_struct,run_equalIn_struct w 9999 122 _ _ Tryz.undB Tryz.stoodB]
 rw[show Tryz.prog.fieldsOf 122=_ from rfl]
 simp[Program.fieldsOf,Tryz.underlying122,Op.eqFields,go_sem]
 unfold sameB
 by_cases h1:f.toList=f'.toList
 ·by_cases h2:q=q'
  ·by_cases h3:n=n'
   ·by_cases h4:a=a'
    ·by_cases h5:h=h'
     ·simp[h1,h2,h3,h4,h5]
     ·simp[h1,h2,h3,h4,h5]
    ·simp[h1,h2,h3,h4]
   ·simp[h1,h2,h3]
  ·simp[h1,h2]
 ·simp[h1]
theorem sameB_iff (p q:Sb):sameB p q=true ↔ p=q:=by
 obtain⟨a,b,c,d,e⟩:=p
 obtain⟨a',b',c',d',e'⟩:=q
 unfold sameB
 constructor
 ·intro h
  simp only[Bool.and_eq_true,beq_iff_eq]at h
  obtain⟨⟨⟨⟨h1,h2⟩,h3⟩,h4⟩,h5⟩:=h
  rw[text_ext h1,h2,h3,h4,h5]
 ·rintro h
  cases h
  simp
theorem eqb_core (ba oa bb ob ca cb:Nat) (l m:List Sb) (len:Nat) (w:World) (hl:l.length=len) (hm:m.length=len) (hmx:len<=1000000000) (ha:SbAt w ba oa l) (hb:SbAt w bb ob m) :
  Calls Tryz.prog 30 #[.slice (some ⟨ba,oa,none⟩) len ca,.slice (some ⟨bb,ob,none⟩) len cb] w fun e w'=>(∃ b,e=.returned (.bool b)/\(b=true ↔ ∀ j,j < len->l.getD j sb0=m.getD j sb0))/\∃ k,w'=w.drewN k:=by
 have HL:=zh hl
 have HM:=zh hm
 have HA:=zh ha
 have HB:=zh hb
 clear hl hm ha hb
 go_enter Tryz.func30,Tryz.ntmps30
 go_wp2
 go_loopw [5] (fun i wr=>∃ k q:Nat,k<=len/\i=.int .i64 k/\wr=w.drewN q/\Hid (∀ j,j < k->l.getD j sb0=m.getD j sb0)) (fun i _=>len - (intOf i).toNat)
 case atStart=>exact⟨0,0,Nat.zero_le _,rfl,rfl,fun j hj=>absurd hj (Nat.not_lt_zero j)⟩
 case round =>
  obtain⟨k,q,hk,rfl,rfl,HALL⟩:=hrel
  by_cases hlt:k < len
  ·obtain⟨h0,h1,h2,h3,h4⟩:=(uh HA) k (by rw[uh HL];exact hlt)
   obtain⟨g0,g1,g2,g3,g4⟩:=(uh HB) k (by rw[uh HM];exact hlt)
   obtain⟨x1,x2,x3,x4,x5,hp⟩:∃ a b c d e,l.getD k sb0=⟨a,b,c,d,e⟩:=⟨_,_,_,_,_,rfl⟩
   obtain⟨y1,y2,y3,y4,y5,hp'⟩:∃ a b c d e,m.getD k sb0=⟨a,b,c,d,e⟩:=⟨_,_,_,_,_,rfl⟩
   rw[hp]at h0 h1 h2 h3 h4
   rw[hp']at g0 g1 g2 g3 g4
   simp only at h0 h1 h2 h3 h4 g0 g1 g2 g3 g4
   have HP:=zh hp
   have HP':=zh hp'
   clear hp hp'
   have qg:=Tryz.eqgB
   have qn:=fun W=>neqB x1 y1 x2 y2 x5 y5 x3 y3 x4 y4 W
   generalize hsb:sameB ⟨x1,x2,x3,x4,x5⟩ ⟨y1,y2,y3,y4,y5⟩=sb at qn
   have HSB:=zh hsb
   clear hsb
   cases sb
   ·have HNE:Hid (l.getD k sb0≠m.getD k sb0):=fun e=>by
     rw[uh HP,uh HP']at e
     have:=(sameB_iff _ _).2 e
     rw[uh HSB]at this
     cases this
    go_wp2
    go_quiet (fail)
    go_wp2
    go_ret
    refine⟨⟨_,rfl,?_⟩,q+nq,drewN_drewN _ _ _⟩
    constructor
    ·intro h;cases h
    ·intro h;exact absurd (h k hlt) (uh HNE)
   ·have HE:Hid (l.getD k sb0=m.getD k sb0):=by
     show _=_
     rw[uh HP,uh HP']
     exact (sameB_iff _ _).1 (uh HSB)
    go_wp2
    go_quiet (fail)
    go_wp2
    go_roundw
    case rel=>exact⟨k+1,_,by omega,by go_num,rfl,fun j hj=>by
     rcases Nat.lt_succ_iff_lt_or_eq.1 hj with h | h
     ·exact (uh HALL) j h
     ·rw[h];exact uh HE⟩
    case measure=>simp[intOf];omega
  ·go_wp2
   go_ret
   exact⟨⟨_,rfl,fun _ j hj=>(uh HALL) j (by omega),fun _=>rfl⟩,_,rfl⟩
theorem eqb_len (ao bo:Option Addr) (n m ca cb:Nat) (w:World) (h:n≠m) :
  Calls Tryz.prog 30 #[.slice ao n ca,.slice bo m cb] w fun e w'=>e=.returned (.bool false)/\w'=w:=by
 have h1:((n:Int) == (m:Int))=false:=beq_eq_false_iff_ne.2 (by omega)
 go_enter Tryz.func30,Tryz.ntmps30
 go_wp2
 go_ret
 exact⟨rfl,rfl⟩
theorem eqb_nil (ao bo:Option Addr) (ca cb:Nat) (w:World) :
  Calls Tryz.prog 30 #[.slice ao 0 ca,.slice bo 0 cb] w fun e w'=>e=.returned (.bool true)/\w'=w:=by
 go_enter Tryz.func30,Tryz.ntmps30
 go_wp2
 refine wp_loop_rounds 1 ?_
 rw[rounds_succ]
 go_wp2
 go_ret
 exact⟨rfl,rfl⟩
theorem sb_ext {l m:List Sb} (hl:l.length=m.length) (h:∀ j,j < l.length->l.getD j sb0=m.getD j sb0):l=m:=by
 apply List.ext_getElem hl
 intro i h1 h2
 have:=h i h1
 rw[List.getD_eq_getElem?_getD,List.getD_eq_getElem?_getD,List.getElem?_eq_getElem h1,List.getElem?_eq_getElem h2]at this
 exact this
theorem eqb_any (va vb:Value) (l m:List Sb) (w:World) (ha:Sbs w va l) (hb:Sbs w vb m) (hmx:l.length<=1000000000) :
  Calls Tryz.prog 30 #[va,vb] w fun e w'=>(∃ b,e=.returned (.bool b)/\(b=true ↔ l=m))/\∃ k,w'=w.drewN k:=by
 obtain⟨ao,ca,rfl,_,ha⟩:=ha
 obtain⟨bo,cb,rfl,_,hb⟩:=hb
 by_cases hl:l.length=m.length
 ·rcases ha with rfl | ⟨ba,oa,rfl,hca⟩
  ·obtain rfl:m=[]:=List.length_eq_zero_iff.1 hl.symm
   refine (eqb_nil _ _ _ _ _).mono ?_
   rintro e w' ⟨rfl,rfl⟩
   exact⟨⟨true,rfl,by simp⟩,0,rfl⟩
  ·rcases hb with rfl | ⟨bb,ob,rfl,hcb⟩
   ·obtain rfl:l=[]:=List.length_eq_zero_iff.1 hl
    refine (eqb_nil _ _ _ _ _).mono ?_
    rintro e w' ⟨rfl,rfl⟩
    exact⟨⟨true,rfl,by simp⟩,0,rfl⟩
   ·rw[<- hl]
    refine (eqb_core ba oa bb ob ca cb l m l.length w rfl hl.symm hmx hca hcb).mono ?_
    rintro e w' ⟨⟨b,rfl,hbb⟩,k,rfl⟩
    exact⟨⟨b,rfl,hbb.trans ⟨fun h=>sb_ext hl h,fun h j _=>by rw[h]⟩⟩,k,rfl⟩
 ·refine (eqb_len ao bo l.length m.length ca cb w hl).mono ?_
  rintro e w' ⟨rfl,rfl⟩
  exact⟨⟨false,rfl,by constructor;(intro h;cases h);(intro h;exact absurd (by rw[h]) hl)⟩,0,rfl⟩
end Go.Proofs.YtccnjdgaldbgnaaGreatDoor.K
