/- Proved here: helpers, one text behind the other. -/
import Derived.Test.YtdkmmmjjdlnnoaaGreatDoorZC17
import Derived.Test.YtdkmmmjjdlnnoaaGreatDoorZC16
import Derived.Test.YtdkmmmjjdlnnoaaGreatDoorZC12
import Derived.Test.YtdkmmmjjdlnnoaaGreatDoorZK1R1
import Derived.Test.YtdkmmmjjdlnnoaaGreatDoorZC15
set_option maxHeartbeats 20000000
namespace Go.Proofs.YtdkmmmjjdlnnoaaGreatDoor.K
open Go.RowKit
set_option maxRecDepth 100000
theorem one?_hi (l:List Int) (x:Int) (l':List Int) (h:one? l=some (x,l')) (hr:∀ j,0<=l.getD j 0/\l.getD j 0<=255):0<=x/\x<=(255:Nat):=by
 cases l with
 | nil=>cases h
 | cons a t=>simp[one?]at h;obtain⟨rfl,_⟩:=h;simpa using hr 0
theorem two?_hi (l:List Int) (x:Int) (l':List Int) (h:two? l=some (x,l')) (hr:∀ j,0<=l.getD j 0/\l.getD j 0<=255):0<=x/\x<=(65535:Nat):=by
 match l,h with
 | [],h=>cases h
 | [a],h=>cases h
 | a :: b :: t,h =>
  simp[two?]at h
  obtain⟨rfl,_⟩:=h
  have h0:=hr 0
  have h1:=hr 1
  simp at h0 h1
  omega
theorem one_anyX (R:Nat) (X:Nat->Prop) (st:Option (List Int)) (w0 w:World) (h:RSX w0 w R X st):Calls Tryz.prog 90 #[.pointer (some ⟨R,0,none⟩)] w (RdIX w0 R X 255 one? st w) :=
 int_any w0 R X 255 one? st w h one?_hi (fun bv l h1 h2 h3 h4=>one_good R bv l w0 w h1 h2 h3 h4) (fun bv t z l h1 h2 h3 h4=>one_bad R bv t z l w0 w h1 h2 h3 h4)
theorem one_any (R:Nat) (st:Option (List Int)) (w0 w:World) (h:RS w0 w R st):Calls Tryz.prog 90 #[.pointer (some ⟨R,0,none⟩)] w (RdI w0 R 255 one? st w):=one_anyX R _ st w0 w h
theorem two_anyX (R:Nat) (X:Nat->Prop) (st:Option (List Int)) (w0 w:World) (h:RSX w0 w R X st):Calls Tryz.prog 135 #[.pointer (some ⟨R,0,none⟩)] w (RdIX w0 R X 65535 two? st w) :=
 int_any w0 R X 65535 two? st w h two?_hi (fun bv l h1 h2 h3 h4=>two_good R bv l w0 w h1 h2 h3 h4) (fun bv t z l h1 h2 h3 h4=>two_bad R bv t z l w0 w h1 h2 h3 h4)
theorem two_any (R:Nat) (st:Option (List Int)) (w0 w:World) (h:RS w0 w R st):Calls Tryz.prog 135 #[.pointer (some ⟨R,0,none⟩)] w (RdI w0 R 65535 two? st w):=two_anyX R _ st w0 w h
theorem getx (X:Nat->Prop) (v:Value) (l:List Int) (w:World) (hX:∀ k,X k->k < w.heap.size) (hv:Byt w v l):Calls Tryz.prog 162 #[v] w fun e w'=>∃ E,e=.returned (.tuple #[.string (gt l).1,.int .i64 (gt l).2.1,E])/\Hid (Bel w' X E (gt l).2.2)/\Below w.heap.size w w':=by
 unfold gt
 by_cases hf:full l=true
 ·rw[if_pos hf]
  by_cases hu:utf (sb (gbs l))=true
  ·rw[if_pos hu]
   refine (get_ok v l w hv hf hu).mono ?_
   rintro e w' ⟨rfl,q,rfl⟩
   exact⟨_,rfl,.inl ⟨rfl,rfl⟩,below_q q⟩
  ·rw[if_neg hu]
   refine (get_form v l w hv hf (by simpa using hu)).mono ?_
   rintro e w' ⟨rfl,q,rfl⟩
   exact⟨_,rfl,bel_new hX (Nat.le_refl _) (fault_is 1 (w.drewN q)) (by decide),(below_q q).trans (fault_below 1 (w.drewN q))⟩
 ·rw[if_neg hf]
  refine (get_short v l w hv (by simpa using hf)).mono ?_
  rintro e w' ⟨rfl,q,rfl⟩
  exact⟨_,rfl,bel_new hX (Nat.le_refl _) (fault_is 3 (w.drewN q)) (by decide),(below_q q).trans (fault_below 3 (w.drewN q))⟩
theorem gt_len (l:List Int) (hr:∀ j,0<=l.getD j 0/\l.getD j 0<=255):∃ N:Nat,(gt l).2.1=(N:Int)/\N<=l.length/\(gt l).1.size<=65535:=by
 unfold gt
 by_cases hf:full l=true
 ·rw[if_pos hf]
  by_cases hu:utf (sb (gbs l))=true
  ·rw[if_pos hu]
   exact⟨2+nb l,rfl,full_len l hf,gbs_size l hr⟩
  ·rw[if_neg hu]
   exact⟨0,rfl,Nat.zero_le _,es_size⟩
 ·rw[if_neg hf]
  exact⟨0,rfl,Nat.zero_le _,es_size⟩
theorem text_anyX (R:Nat) (X:Nat->Prop) (st:Option (List Int)) (w0 w:World) (h:RSX w0 w R X st):Calls Tryz.prog 133 #[.pointer (some ⟨R,0,none⟩)] w (RdSX w0 R X text? st w):=by
 obtain⟨hX,⟨c,hd⟩,bv,l,E,hr,hb,hw,hR,hst⟩:=h
 obtain⟨n,hN,hn,hsz⟩:=gt_len l hb.range
 have HG:=zh (getx X bv l w hX.2 (hb.below hw))
 have HQ:Hid (text? l=if (gt l).2.2=0 then some ((gt l).1,l.drop n) else none):=by
  show text? l=_
  unfold text?
  rw[hN,Int.toNat_natCast]
 rw[hN]at HG
 have hE:=st_form hst
 have hst':st=some l\/st=none:=hst.imp And.left And.left
 have HR:=zh hr
 have HB:=zh hb
 have HA:=zh (after w0 w)
 have HD:=zh hd
 have HW:=zh hw
 have HS:=zh hst
 have HS':=zh hst'
 have HE:=zh hE
 have HX:=zh hX
 generalize (gt l).1=g at HG HQ hsz
 generalize (gt l).2.2=m at HG HQ
 obtain⟨h1,h2,h3,h4⟩:=hr
 clear hN hd hb hw hst hst' hE h2 h3 h4 hX
 go_enter Tryz.func133,Tryz.ntmps133
 go_wp2_with fail
 refine (uh HG).mono ?_
 rintro e w1 ⟨F,rfl,hF,hB⟩
 have HB1:=zh hB
 have HR1:=zh ((uh HR).below hB)
 clear hB h1
 go_wp2_with fail
 refine (fail_any R bv E F w1 (uh HR1) (uh HE) (uh hF).form).mono ?_
 rintro e w2 ⟨rfl,hr2,hx2⟩
 have HR2:=zh hr2
 have HX2:=zh hx2
 clear hr2 hx2
 go_wp2_with fail
 refine (next_ok R bv (orE E F) l n w0 w2 (uh HR2) (uh HB) hn).mono ?_
 rintro e w3 ⟨v,bv',rfl,hv,hbv,hr3,hx3⟩
 have HV:=zh hbv
 have HR3:=zh hr3
 have HX3:=zh hx3
 clear hv hbv hr3 hx3
 go_wp2
 go_ret
 have k:=(uh HA) w1 w2 w3 R X bv' E F st l n m c (uh HX) (uh HD) (uh HW) hR (uh HS) (uh HB1) (uh hF) (uh HX2) (uh HX3) (uh HV) (uh HR3)
 exact⟨g,_,rfl,hsz,stp_get text? st l g n m (uh HS') (uh HQ),k.1,k.2⟩
theorem text_any (R:Nat) (st:Option (List Int)) (w0 w:World) (h:RS w0 w R st):Calls Tryz.prog 133 #[.pointer (some ⟨R,0,none⟩)] w (RdS w0 R text? st w):=text_anyX R _ st w0 w h
theorem BX.setOut {R:Nat} {may:Nat->Prop} {a b:World} (h:BX R may a b) (V j:Nat) (u:Value) (hV:a.heap.size<=V) (hR:R < a.heap.size):BX R may a (b.setCell ⟨V,j,none⟩ u) :=
 h.trans' ⟨rfl,rfl,rfl,by simp[World.setCell],fun k hk _=>Below.heap_setCell _ _ _ _ (by show k≠V;omega),fun i _=>World.cell?_setCell_other _ _ _ _ (fun e=>by injection e with e1 _;omega),fun i=>World.frozen?_setCell ..⟩
theorem ErO.setOut {w:World} {X:Nat->Prop} {V j:Nat} {u:Value} (hV:∀ t x,w.cell? ⟨V,1,none⟩≠some (.iface t x)):∀ {d:Nat} {v:Value} {n:Int},ErO w X d v n->ErO (w.setCell ⟨V,j,none⟩ u) X d v n
 | 0,_,_,h=>h
 | _+1,_,_,⟨b,u',h1,hR,h2,h3⟩=>⟨b,u',h1,hR,by
   rw[World.cell?_setCell_other _ _ _ _ (fun e=>by
    injection e with e1 _
    subst e1
    obtain⟨t,x,rfl⟩:=h3.iface
    exact hV t x h2)]
   exact h2,ErO.setOut hV h3⟩
theorem RSX.setOut {w0 w:World} {R:Nat} {X:Nat->Prop} {st:Option (List Int)} (h:RSX w0 w R X st) (V j:Nat) (u:Value) (hR:V≠R) (h0:w0.heap.size<=V) (hV:∀ t x,w.cell? ⟨V,1,none⟩≠some (.iface t x)):RSX w0 (w.setCell ⟨V,j,none⟩ u) R X st:=by
 obtain⟨hX,⟨x,hd⟩,bv,l,E,⟨r1,r2,r3,r4⟩,hb,hw,hR0,hst⟩:=h
 have ne:∀ i,(⟨V,j,none⟩:Addr)≠⟨R,i,none⟩:=fun i e=>by injection e with e1 _;exact hR e1
 refine⟨xs_grow hX (by simp[World.setCell]),⟨x,(World.cell?_setCell_other _ _ _ _ (ne 1)).trans hd⟩,bv,l,E,⟨(World.cell?_setCell_other _ _ _ _ (ne 19)).trans r1,by simpa using r2,(World.cell?_setCell_other _ _ _ _ (ne 20)).trans r3,by simpa using r4⟩,hb,⟨hw.os,hw.tape,hw.output,by simpa [World.setCell] using hw.size,fun k hk=>(Below.heap_setCell _ _ _ _ (by show k≠V;omega)).trans (hw.block k hk)⟩,hR0,?_⟩
 rcases hst with h | ⟨h,d,n,hd,he⟩
 ·exact .inl h
 ·exact .inr ⟨h,d,n,hd,he.setOut hV⟩
theorem Pk.client_f {w:World} {R:Nat} {p:Pkv} (h:Pk w R p):w.frozen? ⟨R,8,none⟩=false:=(h 8 (by omega)).2
theorem Pk.set_client {w:World} {R:Nat} {p:Pkv} (h:Pk w R p) (x:ByteArray):Pk (w.setCell ⟨R,8,none⟩ (.string x)) R { p with client:=x }:=h.set { p with client:=x } 8 (by omega) (fun j hj=>by unfold Pkv.cell;split <;> first | rfl | exact absurd rfl hj)
theorem Pk.clean_f {w:World} {R:Nat} {p:Pkv} (h:Pk w R p):w.frozen? ⟨R,9,none⟩=false:=(h 9 (by omega)).2
theorem Pk.set_clean {w:World} {R:Nat} {p:Pkv} (h:Pk w R p) (x:Bool):Pk (w.setCell ⟨R,9,none⟩ (.bool x)) R { p with clean:=x }:=h.set { p with clean:=x } 9 (by omega) (fun j hj=>by unfold Pkv.cell;split <;> first | rfl | exact absurd rfl hj)
theorem Pk.keep_f {w:World} {R:Nat} {p:Pkv} (h:Pk w R p):w.frozen? ⟨R,10,none⟩=false:=(h 10 (by omega)).2
theorem Pk.set_keep {w:World} {R:Nat} {p:Pkv} (h:Pk w R p) (x:Int):Pk (w.setCell ⟨R,10,none⟩ (.int .i64 x)) R { p with keep:=x }:=h.set { p with keep:=x } 10 (by omega) (fun j hj=>by unfold Pkv.cell;split <;> first | rfl | exact absurd rfl hj)
theorem Pk.set_wills {w:World} {R:Nat} {p:Pkv} (h:Pk w R p) (x:Sl):Pk (w.setCell ⟨R,11,none⟩ (x.val)) R { p with wills:=x }:=h.set { p with wills:=x } 11 (by omega) (fun j hj=>by unfold Pkv.cell;split <;> first | rfl | exact absurd rfl hj)
theorem Pk.set_user {w:World} {R:Nat} {p:Pkv} (h:Pk w R p) (x:Sl):Pk (w.setCell ⟨R,12,none⟩ (x.val)) R { p with user:=x }:=h.set { p with user:=x } 12 (by omega) (fun j hj=>by unfold Pkv.cell;split <;> first | rfl | exact absurd rfl hj)
theorem Pk.set_pass {w:World} {R:Nat} {p:Pkv} (h:Pk w R p) (x:Sl):Pk (w.setCell ⟨R,13,none⟩ (x.val)) R { p with pass:=x }:=h.set { p with pass:=x } 13 (by omega) (fun j hj=>by unfold Pkv.cell;split <;> first | rfl | exact absurd rfl hj)
end Go.Proofs.YtdkmmmjjdlnnoaaGreatDoor.K
