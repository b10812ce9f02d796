/- Proved here: helpers, one text behind the other. -/
import Derived.Test.YtpheelbbpiieiaaGreatDoorZC34
import Derived.Deep.Cut
import Derived.Laws.AppendOwn
import Derived.Deep.CutRange
set_option maxHeartbeats 20000000
namespace Go.Proofs.YtpheelbbpiieiaaGreatDoor.K
open Go.RowKit
set_option maxRecDepth 100000
theorem gflag_is (b:Bool) (n:Int) (w:World):Calls Tryz.prog 88 #[.bool b,.int .i64 n] w fun e w'=>e=.returned (.int .i64 (fv b n))/\w'=w:=by
 cases b
 ·go_enter Tryz.func88,Tryz.ntmps88
  go_wp2
  go_ret
  exact⟨rfl,rfl⟩
 ·go_enter Tryz.func88,Tryz.ntmps88
  go_wp2
  go_ret
  exact⟨rfl,rfl⟩
theorem gflags_fixed (p:Pkv) (w:World) (h:p.kind=6\/p.kind=8\/p.kind=10):Calls Tryz.prog 59 #[p.val] w fun e w'=>e=.returned (.int .i64 2)/\Below w.heap.size w w':=by
 obtain⟨kind,dup,qos,retain,topic,id,payload,⟨a1,n1,c1⟩,client,clean,keep,⟨a2,n2,c2⟩,⟨a3,n3,c3⟩,⟨a4,n4,c4⟩,code,session,⟨a5,n5,c5⟩,⟨a6,n6,c6⟩,⟨a7,n7,c7⟩⟩:=p
 simp only at h
 rcases h with rfl | rfl | rfl
 ·go_enter Tryz.func59,Tryz.ntmps59
  go_wp2
  go_ret
  exact⟨rfl,by go_grown⟩
 ·go_enter Tryz.func59,Tryz.ntmps59
  go_wp2
  go_ret
  exact⟨rfl,by go_grown⟩
 ·go_enter Tryz.func59,Tryz.ntmps59
  go_wp2
  go_ret
  exact⟨rfl,by go_grown⟩
theorem gflags_other (p:Pkv) (w:World) (h3:p.kind≠3) (h6:p.kind≠6) (h8:p.kind≠8) (h10:p.kind≠10):Calls Tryz.prog 59 #[p.val] w fun e w'=>e=.returned (.int .i64 0)/\Below w.heap.size w w':=by
 obtain⟨kind,dup,qos,retain,topic,id,payload,⟨a1,n1,c1⟩,client,clean,keep,⟨a2,n2,c2⟩,⟨a3,n3,c3⟩,⟨a4,n4,c4⟩,code,session,⟨a5,n5,c5⟩,⟨a6,n6,c6⟩,⟨a7,n7,c7⟩⟩:=p
 simp only at h3 h6 h8 h10
 go_enter Tryz.func59,Tryz.ntmps59
 go_wp2
 go_ret
 exact⟨rfl,by go_grown⟩
def pgf (dup:Bool) (qos:Int) (retain:Bool):Int:=fv dup 8+2 * qos+fv retain 1
theorem gflags_pub (p:Pkv) (w:World) (h3:p.kind=3) (hq:0<=p.qos/\p.qos<=3):Calls Tryz.prog 59 #[p.val] w fun e w'=>e=.returned (.int .i64 (pgf p.dup p.qos p.retain))/\Below w.heap.size w w':=by
 obtain⟨kind,dup,qos,retain,topic,id,payload,⟨a1,n1,c1⟩,client,clean,keep,⟨a2,n2,c2⟩,⟨a3,n3,c3⟩,⟨a4,n4,c4⟩,code,session,⟨a5,n5,c5⟩,⟨a6,n6,c6⟩,⟨a7,n7,c7⟩⟩:=p
 simp only at h3 hq
 subst h3
 unfold pgf
 have hf8:0<=fv dup 8/\fv dup 8<=8:=by unfold fv;cases dup <;> simp
 have hf1:0<=fv retain 1/\fv retain 1<=1:=by unfold fv;cases retain <;> simp
 go_enter Tryz.func59,Tryz.ntmps59
 go_wp2_with fail
 refine wp_region_noPanic ?_
 refine wp_region_held_drew (S:=(fun w'=>w'.cell? ⟨w.heap.size,1,none⟩=some (.bool dup)/\w'.cell? ⟨w.heap.size,2,none⟩=some (.int .i64 qos)/\w'.cell? ⟨w.heap.size,3,none⟩=some (.bool retain))) (by kernel_rfl) (by simp) (fun hHeld=>?_)
 refine rtk 0 (h:=?_)
 refine rtk 1 (h:=?_)
 refine rtk 3 (h:=?_)
 refine rtk 4 (h:=?_)
 refine rtk 5 (h:=?_)
 refine rtk 7 (h:=?_)
 refine rtk 8 (h:=?_)
 refine rcl 2 (h:=fun K hK=>?_)
 go_simp
 refine (gflag_is _ _ _).mono ?_
 rintro e w2 ⟨rfl,hw2⟩
 obtain rfl:=hw2.symm
 clear hw2
 refine hK.out _ _ (by simp) (fun hHeld=>?_)
 clear hK K
 refine rtk 6 (h:=?_)
 refine rcl 9 (h:=fun K hK=>?_)
 go_simp
 refine (gflag_is _ _ _).mono ?_
 rintro e w2 ⟨rfl,hw2⟩
 obtain rfl:=hw2.symm
 clear hw2
 refine hK.out _ _ (by simp) (fun hHeld=>?_)
 clear hK K
 refine rtk 10 (h:=?_)
 refine rcl 11 (h:=fun K hK=>?_)
 go_simp
 refine hK.out _ _ (by simp) (fun hHeld=>?_)
 clear hK K
 refine wpAnyH_done (by kernel_rfl) ?_ _
 refine NoPanic.normal ?_
 go_wp2
 go_ret
 refine⟨congrArg (fun z=>Ending.returned (Value.int .i64 z)) (?_:IntKind.i64.wrap (IntKind.i64.wrap (fv dup 8+IntKind.i64.wrap (2 * qos))+fv retain 1)=fv dup 8+2 * qos+fv retain 1),by go_grown⟩
 simp only[IntKind.wrap_i64]
 omega
def pgfl (b:Int):Int:=if b / 16=3 then pgf (btest b 8) (b / 2 % 4) (btest b 1) else if b / 16=6\/b / 16=8\/b / 16=10 then 2 else 0
theorem gflags_b (b:Int) (w:World):Calls Tryz.prog 59 #[(bpk b).val] w fun e w'=>e=.returned (.int .i64 (pgfl b))/\Below w.heap.size w w':=by
 unfold pgfl bpk
 by_cases h3:b / 16=3
 ·simp only[if_pos h3]
  exact gflags_pub _ w rfl (by simp only[pk0];omega)
 ·simp only[if_neg h3]
  by_cases h6:b / 16=6\/b / 16=8\/b / 16=10
  ·simp only[if_pos h6]
   exact gflags_fixed _ w h6
  ·simp only[if_neg h6]
   exact gflags_other _ w h3 (fun e=>h6 (.inl e)) (fun e=>h6 (.inr (.inl e))) (fun e=>h6 (.inr (.inr e)))
def mlp (R:Nat) (w:World):Nat:=match w.cell? ⟨R,2,none⟩ with
 | some (.bool false)=>match w.cell? ⟨R,0,none⟩,w.cell? ⟨R,1,none⟩ with
  | some (.slice _ n _),some (.int _ k)=>n - k.toNat+1
  | _,_=>0
 | _=>0
theorem mlp_some {w0:GW} {w:World} {R:Nat} {l:List Int} (h:RP w0 w R (some l)):mlp R w=l.length+1:=by
 obtain⟨ao,n,cap,k,bad,L,hc,hy,hk,hn,hw,hR,hst⟩:=h
 have hl:=(byt_len hy).1
 cases bad
 ·simp only[Bool.false_eq_true,if_false,Option.some.injEq]at hst
  unfold mlp
  rw[hc.2.2.1,hc.1,hc.2.1.1,hst,List.length_drop,hl]
  simp
 ·cases hst
theorem mlp_none {w0:GW} {w:World} {R:Nat} (h:RP w0 w R none):mlp R w=0:=by
 obtain⟨ao,n,cap,k,bad,L,hc,hy,hk,hn,hw,hR,hst⟩:=h
 cases bad
 ·simp at hst
 ·unfold mlp
  rw[hc.2.2.1]
theorem owns_ne {w:World} {V j:Nat} {u:Value} {B:Nat} {e:TypeId} {s:Nat} {v:Value} {n:Nat} {xs:List Value} (h:w.ownsRow B e s v n xs) (hV:∀ g,v.ownBlock=some g->g≠V):(w.setCell ⟨V,j,none⟩ u).ownsRow B e s v n xs:=by
 refine⟨h.1,?_⟩
 rcases h.2 with h1 | ⟨g,cap,cur,hv,hB,hg,rest⟩
 ·exact .inl h1
 ·exact .inr ⟨g,cap,cur,hv,hB,by rw[Below.heap_setCell _ _ _ _ (hV g (by rw[hv];rfl))];exact hg,rest⟩
def pglist? {α:Type} (kind:Int) (f:List Int->Option (α×List Int)):List Int->Option ((Int×List Pr×List α)×List Int) :=
 bindR two? fun i=>bindR (props? kind) fun x=>bindR (manyR f) fun d=>bindR (mustR (!(i == 0) && mc d.length)) fun _=>pureR (i,x,d)
def Shw {α:Type} (f:List Int->Option (α×List Int)):Prop:=∀ l x l',f l=some (x,l')->l'.length<=l.length
theorem stp_leq {α:Type} {f:List Int->Option (α×List Int)} (hf:Shw f) {st st':Option (List Int)} {x:α} {N:Nat} (h:Stp f st x st') (hl:∀ l,st=some l->l.length<=N):∀ l,st'=some l->l.length<=N:=by
 intro l' e
 subst e
 cases st with
 | none=>cases h
 | some l =>
  unfold Stp at h
  simp only at h
  cases hq:f l with
  | none=>rw[hq]at h;cases h
  | some r =>
   obtain⟨y,l2⟩:=r
   rw[hq]at h
   obtain⟨_,e⟩:=h
   cases e
   exact Nat.le_trans (hf l y l' hq) (hl l rfl)
theorem two?_shw:Shw two?:=by
 intro l x l' h
 match l,h with
 | [],h=>cases h
 | [a],h=>cases h
 | a :: b :: t,h =>
  simp[two?]at h
  obtain⟨_,rfl⟩:=h
  simp;omega
theorem props?_shw (k:Int):Shw (props? k):=by
 intro l x l' h
 unfold props? at h
 split at h
 ·simp only[Option.some.injEq,Prod.mk.injEq]at h
  obtain⟨_,rfl⟩:=h
  rw[List.length_drop]
  omega
 ·cases h
def okF (x:Int):Bool:=!((bits .and .i64 x 1 != 0) || ((bits .and .i64 x 4 == 0) && (bits .and .i64 x 56 != 0)) || (bits .and .i64 x 24 == 24))
def connectP?:List Int->Option (Cn×List Int) :=
 bindR text? fun m=>bindR (mustR (isMQTT m)) fun _=>bindR one? fun v=>bindR (mustR (v == 5)) fun _=>bindR one? fun x=>bindR two? fun k=>bindR (props? 1) fun pr=>bindR text? fun c =>
  bindR (mustR (cfok x)) fun _=>bindR (will? x) fun wl=>bindR (user? x) fun us=>bindR (pass? x) fun pa=>pureR ⟨x,k,pr,c,wl,us,pa⟩
def restC (x k:Int) (pr:List Pr) (c:ByteArray):List Int->Option (Cn×List Int):=bindR (mustR (cfok x)) fun _=>bindR (will? x) fun wl=>bindR (user? x) fun us=>bindR (pass? x) fun pa=>pureR ⟨x,k,pr,c,wl,us,pa⟩
def cn0:Cn:=⟨0,0,[],⟨#[]⟩,none,none,none⟩
def ConnPg (w0:GW) (R A:Nat) (P:Pa) (st:Option (List Int)) (w:World) (e:Ending) (w':World):Prop :=
 e=.returned (.tuple #[])/\∃ (p':Pkv) (n:Cn) (st':Option (List Int)),Pk w' A p'/\Stp connectP? st n st'/\RP w0 w' R st'/\B2 R A w w'/\(st'=none\/Hid (Mean w' w.heap.size p' (ofCn P n)))
theorem okF_is (x:Int) (h0:0<=x) (h1:x<=255):okF x=cfok x:=byte_cases (P:=fun x=>okF x=cfok x) (by decide +kernel) x h0 h1
theorem bind_none' {α β:Type} (o:Option α):(o.bind fun _=>(none:Option β))=none:=by cases o <;> rfl
theorem connectP_eq (l:List Int):connectP? l=connect? l:=by
 unfold connectP? connect? flags?
 simp only[bindR,mustR,pureR]
 cases text? l with
 | none=>rfl
 | some a =>
  simp only[Option.bind_some]
  cases isMQTT a.1
  ·rfl
  ·simp only[if_true,Option.bind_some]
   cases one? a.2 with
   | none=>rfl
   | some b =>
    simp only[Option.bind_some]
    cases (b.1 == 5)
    ·rfl
    ·simp only[if_true,Option.bind_some]
     cases one? b.2 with
     | none=>rfl
     | some x =>
      simp only[Option.bind_some]
      cases cfok x.1
      ·simp only[Bool.false_eq_true,if_false,Option.bind_none,bind_none']
      ·simp only[if_true,Option.bind_some]
theorem new_row {w:World} {A j:Nat} {u:Value} {B:Nat} {e:TypeId} {s:Nat} {c:Array Value} {l:List Value} (hA:A < w.heap.size) (hB:B<=w.heap.size) (hc:c.toList=l) (hs:l.length=s):((w.alloc (.cells c e)).setCell ⟨A,j,none⟩ u).ownsRow B e s (Sl.val ⟨some ⟨w.heap.size,0,none⟩,1,1⟩) 1 l:=by
 subst hc hs
 refine⟨by simp,.inr ⟨w.heap.size,1,c,rfl,hB,(Below.heap_setCell _ _ _ _ (by show _≠A;omega)).trans Array.getElem?_push_size,Nat.le_refl _,by unfold maxLen;simp,by simp,by simp;exact List.take_of_length_le (by simp)⟩⟩
theorem Stp.not {st:Option (List Int)} {b:Bool} (h:b=false):Stp (mustR b) st () none:=by subst h;cases st <;> rfl
theorem Stp.yes {st:Option (List Int)} {b:Bool} (h:b=true):Stp (mustR b) st () st:=by subst h;exact Stp.must true st
theorem connect_pg (R A:Nat) (d:Bool) (q:Int) (r:Bool) (st:Option (List Int)) (w0:GW) (w:World) (h:RP w0 w R st) (hp:Pk w A (pk0 1 d q r)) (hA:A≠R) (hA0:w0.heap.size<=A):Calls Tryz.prog 61 #[.pointer (some ⟨R,0,none⟩),.pointer (some ⟨A,0,none⟩)] w (ConnPg w0 R A (pa0 1 d q r) st w):=by
 have hRw:=h.lt
 have hAw:=hp.lt
 have hw0:=h.keep.size
 have HP:=zh hp
 have HS:=zh h
 clear hp h
 go_enter Tryz.func61,Tryz.ntmps61
 go_wp2_with fail
 refine (text_pg R st w0 w (uh HS)).mono ?_
 rintro e w1 ⟨m,st1,rfl,hs1,h1,hx1⟩
 have HP1:=zh ((uh HP).oth hx1 hA)
 have HS1:=zh h1
 have HST1:=zh hs1
 have HB1:Hid (B2 R A w w1):=B2.bx hx1
 clear h1 hx1 hs1 HP HS
 cases hm:isMQTT m
 ·obtain⟨bb,c2,f2,_⟩:=(uh HS1).c2
  have HM:=zh hm
  have hm2:(m.toList == [77,81,84,84])=false:=hm
  clear hm
  go_wp2
  go_end0
  exact⟨rfl,_,cn0,none,(uh HP1).blk (Below.heap_setCell _ _ _ _ hA),(uh HST1).bind ((Stp.not (uh HM)).bind rfl),(uh HS1).bad,(uh HB1).setR 2 _,.inl rfl⟩
 have HM:=zh hm
 have hm2:(m.toList == [77,81,84,84])=true:=hm
 clear hm
 go_wp2_with fail
 refine (byte_pg R st1 w0 w1 (uh HS1)).mono ?_
 rintro e w2 ⟨v,st2,rfl,hv,hs2,h2,hx2⟩
 have HP2:=zh ((uh HP1).oth hx2 hA)
 have HS2:=zh h2
 have HST2:Hid (∀ n st',Stp (bindR (mustR (v == 5)) fun _=>bindR one? fun x=>bindR two? fun k=>bindR (props? 1) fun pr=>bindR text? fun c=>restC x k pr c) st2 n st'->Stp connectP? st n st'):=fun n st' k=>(uh HST1).bind ((Stp.yes (uh HM)).bind (hs2.bind k))
 have HB2:Hid (B2 R A w w2):=(uh HB1).trans (B2.bx hx2)
 clear h2 hx2 hs2 HP1 HS1 HST1 HB1 HM hm2
 cases hv5:(v == 5)
 ·obtain⟨bb,c2,f2,_⟩:=(uh HS2).c2
  have HV:=zh hv5
  go_wp2
  go_end0
  exact⟨rfl,_,cn0,none,(uh HP2).blk (Below.heap_setCell _ _ _ _ hA),(uh HST2) _ _ ((Stp.not (uh HV)).bind rfl),(uh HS2).bad,(uh HB2).setR 2 _,.inl rfl⟩
 have HV:=zh hv5
 go_wp2_with fail
 refine (byte_pg R st2 w0 w2 (uh HS2)).mono ?_
 rintro e w3 ⟨x,st3,rfl,hx,hs3,h3,hx3⟩
 have hp3:=(uh HP2).oth hx3 hA
 have c9:=hp3.clean
 have f9:=hp3.clean_f
 have HP3:=zh (hp3.set_clean (btest x 2))
 have HS3:=zh (h3.set A 9 (.bool (btest x 2)) hA hA0)
 have HST3:Hid (∀ n st',Stp (bindR two? fun k=>bindR (props? 1) fun pr=>bindR text? fun c=>restC x k pr c) st3 n st'->Stp connectP? st n st'):=fun n st' k=>(uh HST2) n st' ((Stp.yes (uh HV)).bind (hs3.bind k))
 have HB3:Hid (B2 R A w (w3.setCell ⟨A,9,none⟩ (.bool (btest x 2)))):=((uh HB2).trans (B2.bx hx3)).set 9 _
 have b2:=and2 x hx.1 hx.2
 clear h3 hx3 hs3 hp3 HP2 HS2 HST2 HB2 HV hv5 hv
 go_wp2_with fail
 refine (pair_pg R st3 w0 _ (uh HS3)).mono ?_
 rintro e w4 ⟨k,st4,rfl,hk,hs4,h4,hx4⟩
 have hp4:=(uh HP3).oth hx4 hA
 have c10:=hp4.keep
 have f10:=hp4.keep_f
 have HP4:=zh (hp4.set_keep k)
 have HS4:=zh (h4.set A 10 (.int .i64 k) hA hA0)
 have HST4:Hid (∀ n st',Stp (bindR (props? 1) fun pr=>bindR text? fun c=>restC x k pr c) st4 n st'->Stp connectP? st n st'):=fun n st' k=>(uh HST3) n st' (hs4.bind k)
 have HB4:Hid (B2 R A w (w4.setCell ⟨A,10,none⟩ (.int .i64 k))):=((uh HB3).trans (B2.bx hx4)).set 10 _
 clear h4 hx4 hs4 hp4 HP3 HS3 HST3 HB3 c9 f9 b2 hk
 go_wp2_with fail
 refine (props_pg R 1 st4 w0 _ (uh HS4)).mono ?_
 rintro e w5 ⟨tp,pr,st5,rfl,hO5,hs5,h5,hx5⟩
 have hp5:=(uh HP4).oth hx5 hA
 have c7:=hp5.props
 have f7:=hp5.props_f
 have HP5:=zh (hp5.set_props tp)
 have HS5:=zh (h5.set A 7 tp.val hA hA0)
 have HST5:Hid (∀ n st',Stp (bindR text? fun c=>restC x k pr c) st5 n st'->Stp connectP? st n st'):=fun n st' k=>(uh HST4) n st' (hs5.bind k)
 have HB5:Hid (B2 R A w (w5.setCell ⟨A,7,none⟩ tp.val)):=((uh HB4).trans (B2.bx hx5)).set 7 _
 have HO5:Hid ((w5.setCell ⟨A,7,none⟩ tp.val).ownsRow w.heap.size 109 4 tp.val pr.length (pcs pr)):=owns_mono (owns_b2 (R:=R) (uh hO5) ((B2.refl R A w5).set 7 _) (Nat.lt_of_lt_of_le hRw (uh HB4).size) (Nat.lt_of_lt_of_le hAw (uh HB4).size)) (uh HB4).size
 clear h5 hx5 hs5 hp5 hO5 HP4 HS4 HST4 HB4 c10 f10
 go_wp2_with fail
 refine (text_pg R st5 w0 _ (uh HS5)).mono ?_
 rintro e w6 ⟨c,st6,rfl,hs6,h6,hx6⟩
 have hp6:=(uh HP5).oth hx6 hA
 have c8:=hp6.client
 have f8:=hp6.client_f
 have HP6:=zh (hp6.set_client c)
 have HS6:=zh (h6.set A 8 (.string c) hA hA0)
 have HST6:Hid (∀ n st',Stp (restC x k pr c) st6 n st'->Stp connectP? st n st'):=fun n st' k=>(uh HST5) n st' (hs6.bind k)
 have HB6:Hid (B2 R A w (w6.setCell ⟨A,8,none⟩ (.string c))):=((uh HB5).trans (B2.bx hx6)).set 8 _
 have HO6:Hid ((w6.setCell ⟨A,8,none⟩ (.string c)).ownsRow w.heap.size 109 4 tp.val pr.length (pcs pr)):=owns_b2 (R:=R) (A:=A) (uh HO5) ((B2.bx hx6).set 8 _) hRw hAw
 clear h6 hx6 hs6 hp6 HP5 HS5 HST5 HB5 HO5 c7 f7
 go_upto_region 7 with fail
 generalize w6.setCell ⟨A,8,none⟩ (.string c)=wq at HP6 HS6 HB6 HO6 |-
 clear c8 f8
 go_cut [57] from 6 (fun s57 wx=>s57=.bool (!okF x)/\wx=wq)
 case first =>
  cases h1:(bits .and .i64 x 1 != 0)
  ·cases h4:(bits .and .i64 x 4 == 0)
   ·cases h24:(bits .and .i64 x 24 == 24)
    ·go_wp2
     go_meet
     case rel=>exact⟨by unfold okF;rw[h1,h4,h24];rfl,rfl⟩
    ·go_wp2
     go_meet
     case rel=>exact⟨by unfold okF;rw[h1,h4,h24];rfl,rfl⟩
   ·cases h56:(bits .and .i64 x 56 != 0)
    ·cases h24:(bits .and .i64 x 24 == 24)
     ·go_wp2
      go_meet
      case rel=>exact⟨by unfold okF;rw[h1,h4,h56,h24];rfl,rfl⟩
     ·go_wp2
      go_meet
      case rel=>exact⟨by unfold okF;rw[h1,h4,h56,h24];rfl,rfl⟩
    ·go_wp2
     go_meet
     case rel=>exact⟨by unfold okF;rw[h1,h4,h56];simp,rfl⟩
  ·go_wp2
   go_meet
   case rel=>exact⟨by unfold okF;rw[h1];simp,rfl⟩
 case rest =>
 obtain⟨rfl,hwq⟩:=hcut
 obtain rfl:wc=wq:=hwq
 obtain⟨wq,hwq⟩:∃ wq,wq=wc:=⟨_,rfl⟩
 subst hwq
 cases hok:okF x
 ·obtain⟨bb,c2,f2,_⟩:=(uh HS6).c2
  have HV:Hid (cfok x=false):=(okF_is x hx.1 hx.2).symm.trans hok
  go_wp2
  go_end0
  exact⟨rfl,_,cn0,none,(uh HP6).blk (Below.heap_setCell _ _ _ _ hA),(uh HST6) _ _ ((Stp.not (uh HV)).bind rfl),(uh HS6).bad,(uh HB6).setR 2 _,.inl rfl⟩
 have HOK:Hid (cfok x=true):=(okF_is x hx.1 hx.2).symm.trans hok
 have hRq:R < wq.heap.size:=(uh HS6).lt
 have hwqs:w.heap.size<=wq.heap.size:=(uh HB6).size
 have hAq:A < wq.heap.size:=(uh HP6).lt
 have h0q:w0.heap.size<=wq.heap.size:=(uh HS6).keep.size
 have b4:=and4 x hx.1 hx.2
 have b32:=and32 x hx.1 hx.2
 have b64:=and64 x hx.1 hx.2
 have b128:=and128 x hx.1 hx.2
 have b3:=shq x hx.1 hx.2
 clear hok
 go_upto_if 63 with fail
 go_cut [] from 5 (fun wx=>∃ (wl:Option (List Pr×ByteArray×ByteArray)) (tw:Sl) (st7:Option (List Int)),Hid (Stp (will? x) st6 wl st7)/\Hid (RP w0 wx R st7)/\Hid (Pk wx A { pk0 1 d q r with clean:=btest x 2,keep:=k,props:=tp,client:=c,wills:=tw })/\Hid (B2 R A wq wx)/\Hid (∃ ws,wx.ownsRow wq.heap.size 112 5 tw.val (wlOf x wl).length (wcs ws)/\Ws wx wq.heap.size ws (wlOf x wl)))
 case first =>
  cases h4:btest x 4
  ·rw[h4]at b4
   go_wp2
   go_meet
   case rel=>exact⟨none,sl0,st6,(by show Stp _ _ _ _;unfold will?;rw[h4];exact Stp.pure _ _),HS6,HP6,B2.refl _ _ _,wills0 _ _⟩
  ·rw[h4]at b4
   go_wp2_with fail
   refine (props_pg R 16 st6 w0 _ ((uh HS6).below (al _))).mono ?_
   rintro e wa ⟨tq,pq,sta,rfl,hOa,hsa,ha,hxa⟩
   have hVlt:wq.heap.size < wa.heap.size:=by have:=hxa.size;simp at this;omega
   have hVb:wa.heap[wq.heap.size]?=some (.cells #[.string ⟨#[]⟩,.string ⟨#[]⟩,.int .i64 (x / 8 % 4),.bool (btest x 32),.slice none 0 0] 112):=(hxa.block wq.heap.size (by simp) (by omega)).trans Array.getElem?_push_size
   have a4:wa.cell? ⟨wq.heap.size,4,none⟩=some (.slice none 0 0):=by simp[World.cell?,hVb]
   have fr:∀ j,wa.frozen? ⟨wq.heap.size,j,none⟩=false:=fun j=>(hxa.frz (p:=⟨wq.heap.size,j,none⟩) (by simp) (by simp;omega)).trans (by simp)
   have g4:=fr 4
   have HSa:=zh (ha.set wq.heap.size 4 tq.val (by omega) h0q)
   have HPa:=zh ((((uh HP6).below (al (.cells #[.string ⟨#[]⟩,.string ⟨#[]⟩,.int .i64 (x / 8 % 4),.bool (btest x 32),.slice none 0 0] 112))).oth hxa hA).blk (w':=wa.setCell ⟨wq.heap.size,4,none⟩ tq.val) (Below.heap_setCell _ _ _ _ (by show A≠wq.heap.size;omega)))
   have HBa:Hid (B2 R A wq (wa.setCell ⟨wq.heap.size,4,none⟩ tq.val)):=((B2.bel (al _)).trans (B2.bx hxa)).setOut _ 4 _ (Nat.le_refl _)
   have HVa:Hid ((wa.setCell ⟨wq.heap.size,4,none⟩ tq.val).heap[wq.heap.size]?=some (.cells #[.string ⟨#[]⟩,.string ⟨#[]⟩,.int .i64 (x / 8 % 4),.bool (btest x 32),tq.val] 112)):=heap_set hVb
   have HOa:Hid ((wa.setCell ⟨wq.heap.size,4,none⟩ tq.val).ownsRow (wq.heap.size+1) 109 4 tq.val pq.length (pcs pq)):=by
    have k:=uh hOa
    simp only[World.alloc,Array.size_push]at k
    exact owns_out k (Nat.lt_succ_self _)
   have HSTa:=zh hsa
   have FR:=zh fr
   clear ha hxa hsa hOa hVb fr
   go_wp2_with fail
   refine (text_pg R sta w0 _ (uh HSa)).mono ?_
   rintro e wb ⟨t,stb,rfl,hsb,hb,hxb⟩
   have hsab:(wa.setCell ⟨wq.heap.size,4,none⟩ tq.val).heap.size=wa.heap.size:=by simp[World.setCell]
   have hVb:wb.heap[wq.heap.size]?=some (.cells #[.string ⟨#[]⟩,.string ⟨#[]⟩,.int .i64 (x / 8 % 4),.bool (btest x 32),tq.val] 112):=(hxb.block wq.heap.size (by rw[hsab];exact hVlt) (by omega)).trans (uh HVa)
   have v0:wb.cell? ⟨wq.heap.size,0,none⟩=some (.string ⟨#[]⟩):=by simp[World.cell?,hVb]
   have fr:∀ j,wb.frozen? ⟨wq.heap.size,j,none⟩=false:=fun j=>(hxb.frz (p:=⟨wq.heap.size,j,none⟩) (by rw[hsab];exact hVlt) (by simp;omega)).trans (by simpa using (uh FR) j)
   have g0:=fr 0
   have hVltb:wq.heap.size < wb.heap.size:=Nat.lt_of_lt_of_le hVlt (by rw[<- hsab];exact hxb.size)
   have HSb:=zh (hb.set wq.heap.size 0 (.string t) (by omega) h0q)
   have HPb:=zh (((uh HPa).oth hxb hA).blk (w':=wb.setCell ⟨wq.heap.size,0,none⟩ (.string t)) (Below.heap_setCell _ _ _ _ (by show A≠wq.heap.size;omega)))
   have HBb:Hid (B2 R A wq (wb.setCell ⟨wq.heap.size,0,none⟩ (.string t))):=((uh HBa).trans (B2.bx hxb)).setOut _ 0 _ (Nat.le_refl _)
   have HVb:Hid ((wb.setCell ⟨wq.heap.size,0,none⟩ (.string t)).heap[wq.heap.size]?=some (.cells #[.string t,.string ⟨#[]⟩,.int .i64 (x / 8 % 4),.bool (btest x 32),tq.val] 112)):=heap_set hVb
   have HOb:Hid ((wb.setCell ⟨wq.heap.size,0,none⟩ (.string t)).ownsRow (wq.heap.size+1) 109 4 tq.val pq.length (pcs pq)):=owns_out (owns_bx (uh HOa) hxb (by omega)) (Nat.lt_succ_self _)
   have HSTb:=zh hsb
   have FRb:=zh fr
   clear hb hxb hsb hVb fr HSa HPa HBa HVa HOa FR a4 g4 hsab hVlt
   go_wp2_with fail
   refine (bin_pg R stb w0 _ (uh HSb)).mono ?_
   rintro e wd ⟨y,stc,rfl,hsc,hc,hxc⟩
   have hsab:(wb.setCell ⟨wq.heap.size,0,none⟩ (.string t)).heap.size=wb.heap.size:=by simp[World.setCell]
   have hVb:wd.heap[wq.heap.size]?=some (.cells #[.string t,.string ⟨#[]⟩,.int .i64 (x / 8 % 4),.bool (btest x 32),tq.val] 112):=(hxc.block wq.heap.size (by rw[hsab];exact hVltb) (by omega)).trans (uh HVb)
   have v1:wd.cell? ⟨wq.heap.size,1,none⟩=some (.string ⟨#[]⟩):=by simp[World.cell?,hVb]
   have g1:wd.frozen? ⟨wq.heap.size,1,none⟩=false:=(hxc.frz (p:=⟨wq.heap.size,1,none⟩) (by rw[hsab];exact hVltb) (by simp;omega)).trans (by simpa using (uh FRb) 1)
   have HSc:=zh (hc.set wq.heap.size 1 (.string y) (by omega) h0q)
   have HPc:=zh (((uh HPb).oth hxc hA).blk (w':=wd.setCell ⟨wq.heap.size,1,none⟩ (.string y)) (Below.heap_setCell _ _ _ _ (by show A≠wq.heap.size;omega)))
   have HBc:Hid (B2 R A wq (wd.setCell ⟨wq.heap.size,1,none⟩ (.string y))):=((uh HBb).trans (B2.bx hxc)).setOut _ 1 _ (Nat.le_refl _)
   have HVc:Hid ((wd.setCell ⟨wq.heap.size,1,none⟩ (.string y)).heap[wq.heap.size]?=some (.cells #[.string t,.string y,.int .i64 (x / 8 % 4),.bool (btest x 32),tq.val] 112)):=heap_set hVb
   have HOc:Hid ((wd.setCell ⟨wq.heap.size,1,none⟩ (.string y)).ownsRow (wq.heap.size+1) 109 4 tq.val pq.length (pcs pq)):=owns_out (owns_bx (uh HOb) hxc (by omega)) (Nat.lt_succ_self _)
   have HST7:Hid (Stp (will? x) st6 (some (pq,t,y)) stc):=by
    show Stp _ _ _ _
    unfold will?
    rw[if_pos h4]
    exact (uh HSTa).bind ((uh HSTb).bind (hsc.bind (Stp.pure _ _)))
   clear hc hxc hsc hVb HSb HPb HBb HVb HOb FRb v0 g0 hsab hVltb HSTa HSTb
   go_upto_region 14 with fail
   generalize wd.setCell ⟨wq.heap.size,1,none⟩ (.string y)=we at HSc HPc HBc HVc HOc |-
   clear v1 g1
   have hVe:=uh HVc
   have d0:we.cell? ⟨wq.heap.size,0,none⟩=some (.string t):=by simp[World.cell?,hVe]
   have d1:we.cell? ⟨wq.heap.size,1,none⟩=some (.string y):=by simp[World.cell?,hVe]
   have d2:we.cell? ⟨wq.heap.size,2,none⟩=some (.int .i64 (x / 8 % 4)):=by simp[World.cell?,hVe]
   have d3:we.cell? ⟨wq.heap.size,3,none⟩=some (.bool (btest x 32)):=by simp[World.cell?,hVe]
   have d4:we.cell? ⟨wq.heap.size,4,none⟩=some tq.val:=by simp[World.cell?,hVe]
   have hpe:=(uh HPc).below (al (.cells #[.string t,.string y,.int .i64 (x / 8 % 4),.bool (btest x 32),tq.val] 112))
   have c11:=hpe.wills
   have f11:=hpe.wills_f
   simp only[pk0]at c11
   have HPe:=zh hpe
   clear hpe
   clear hVe
   go_wp2
   go_meet
   case rel =>
    have hqe:wq.heap.size<=we.heap.size:=(uh HBc).size
    refine⟨some (pq,t,y),⟨some ⟨we.heap.size,0,none⟩,1,1⟩,stc,HST7,((uh HSc).below (al _)).set A 11 _ hA hA0,(uh HPe).set_wills ⟨some ⟨we.heap.size,0,none⟩,1,1⟩,((uh HBc).trans (B2.bel (al _))).set 11 _,⟨[⟨t,y,x / 8 % 4,btest x 32,tq⟩],new_row (by omega) hqe rfl rfl,rfl,fun i a b ha hb=>?_⟩⟩
    match i,ha,hb with
    | 0,ha,hb =>
     simp[wlOf]at ha hb
     subst ha hb
     exact⟨rfl,rfl,rfl,rfl,owns_mono (owns_b2 (R:=R) (A:=A) ((uh HOc).alloc _) ((B2.refl R A _).set 11 _) (by omega) (by omega)) (Nat.le_succ _)⟩
    | i+1,ha,_=>simp at ha
 case rest =>
 obtain⟨wl,tw,st7,HST7,HS7,HP7,HB7,HW7⟩:=hcut
 obtain⟨wt,hwt⟩:∃ wt,wt=wc:=⟨_,rfl⟩
 subst hwt
 have HO7:Hid (wt.ownsRow w.heap.size 109 4 tp.val pr.length (pcs pr)):=owns_b2 (uh HO6) (uh HB7) hRw hAw
 have HB7':Hid (B2 R A w wt):=(uh HB6).trans (uh HB7)
 have hq7:wq.heap.size<=wt.heap.size:=(uh HB7).size
 clear HO6 HB6 HP6 HS6 b4 b32 b3
 go_upto_if 87 with fail
 go_cut [] from 5 (fun wx=>∃ (us:Option ByteArray) (tu:Sl) (st8:Option (List Int)),Hid (Stp (user? x) st7 us st8)/\Hid (RP w0 wx R st8)/\Hid (Pk wx A { pk0 1 d q r with clean:=btest x 2,keep:=k,props:=tp,client:=c,wills:=tw,user:=tu })/\Hid (B2 R A wt wx)/\Hid (wx.ownsRow wt.heap.size 9 1 tu.val us.toList.length (us.toList.map Value.string)))
 case first =>
  cases h4:btest x 128
  ·rw[h4]at b128
   go_wp2
   go_meet
   case rel=>exact⟨none,sl0,st7,(by show Stp _ _ _ _;unfold user?;rw[h4];exact Stp.pure _ _),HS7,HP7,B2.refl _ _ _,row0 _ _ _ _⟩
  ·rw[h4]at b128
   go_wp2_with fail
   refine (text_pg R st7 w0 _ (uh HS7)).mono ?_
   rintro e wa ⟨u,sta,rfl,hsa,ha,hxa⟩
   have hpa:=((uh HP7).oth hxa hA).below (al (.cells #[.string u] 9))
   have c12:=hpa.user
   have f12:=hpa.user_f
   simp only[pk0]at c12
   have HPa:=zh hpa
   have HSa:=zh ha
   have HXa:=zh hxa
   have HSTa:=zh hsa
   clear ha hxa hsa hpa
   go_wp2
   go_meet
   case rel =>
    have hqe:wt.heap.size<=wa.heap.size:=(uh HXa).size
    have hAa:A < wa.heap.size:=Nat.lt_of_lt_of_le hAq (Nat.le_trans hq7 hqe)
    exact⟨some u,⟨some ⟨wa.heap.size,0,none⟩,1,1⟩,sta,(by show Stp _ _ _ _;unfold user?;rw[if_pos h4];exact (uh HSTa).bind (Stp.pure _ _)),((uh HSa).below (al _)).set A 12 _ hA hA0,(uh HPa).set_user ⟨some ⟨wa.heap.size,0,none⟩,1,1⟩,((B2.bx (uh HXa)).trans (B2.bel (al _))).set 12 _,new_row hAa hqe rfl rfl⟩
 case rest =>
 obtain⟨us,tu,st8,HST8,HS8,HP8,HB8,HU8⟩:=hcut
 obtain⟨wz,hwz⟩:∃ wz,wz=wc:=⟨_,rfl⟩
 subst hwz
 have hz:wt.heap.size<=wz.heap.size:=(uh HB8).size
 have HO8:Hid (wz.ownsRow w.heap.size 109 4 tp.val pr.length (pcs pr)):=owns_b2 (uh HO7) (uh HB8) hRw hAw
 have hwq:w.heap.size<=wq.heap.size:=hwqs
 have HW8:Hid (∃ ws,wz.ownsRow wq.heap.size 112 5 tw.val (wlOf x wl).length (wcs ws)/\Ws wz wq.heap.size ws (wlOf x wl)):=by
  obtain⟨ws,a,b,c⟩:=uh HW7
  exact⟨ws,owns_b2 a (uh HB8) hRq hAq,b,fun i u v hu hv=>⟨(c i u v hu hv).1,(c i u v hu hv).2.1,(c i u v hu hv).2.2.1,(c i u v hu hv).2.2.2.1,owns_b2 (c i u v hu hv).2.2.2.2 (uh HB8) hRq hAq⟩⟩
 have HB8':Hid (B2 R A w wz):=(uh HB7').trans (uh HB8)
 have hRz:R < wt.heap.size:=Nat.lt_of_lt_of_le hRq hq7
 have hAz:A < wt.heap.size:=Nat.lt_of_lt_of_le hAq hq7
 -- whatever comes of the password,the end
 have HEND:Hid (∀ (W:World) (pa:Option ByteArray) (ta:Sl) (st9:Option (List Int)),B2 R A wz W->Stp (pass? x) st8 pa st9->RP w0 W R st9->Pk W A { pk0 1 d q r with clean:=btest x 2,keep:=k,props:=tp,client:=c,wills:=tw,user:=tu,pass:=ta }->W.ownsRow wz.heap.size 9 1 ta.val pa.toList.length (pa.toList.map Value.string)->ConnPg w0 R A (pa0 1 d q r) st w (.returned (.tuple #[])) W):=by
  intro W pa ta st9 hB hst hS hP hO
  refine⟨rfl,_,⟨x,k,pr,c,wl,us,pa⟩,st9,hP,(uh HST6) _ _ ((Stp.yes (uh HOK)).bind ((uh HST7).bind ((uh HST8).bind (hst.bind (Stp.pure _ _))))),hS,(uh HB8').trans hB,.inr ?_⟩
  refine⟨⟨rfl,rfl,rfl,rfl,rfl,rfl,rfl,rfl,rfl,rfl,rfl,rfl⟩,owns_b2 (uh HO8) hB hRw hAw,?_,owns_mono (owns_b2 (uh HU8) hB hRz hAz) (Nat.le_trans hwq hq7),owns_mono hO (Nat.le_trans (Nat.le_trans hwq hq7) hz),row0 _ _ _ _,row0 _ _ _ _,row0 _ _ _ _⟩
  obtain⟨ws,a,b,c⟩:=uh HW8
  exact⟨ws,owns_mono (owns_b2 a hB hRq hAq) hwq,b,fun i u v hu hv=>⟨(c i u v hu hv).1,(c i u v hu hv).2.1,(c i u v hu hv).2.2.1,(c i u v hu hv).2.2.2.1,owns_mono (owns_b2 (c i u v hu hv).2.2.2.2 hB hRq hAq) hwq⟩⟩
 have hAwz:A < wz.heap.size:=Nat.lt_of_lt_of_le hAz hz
 clear HST6 HOK HST7 HST8 HW7 HW8 HO7 HO8 HU8 HB7 HB7' HB8 HB8' HS7 HP7 hwqs
 cases h4:btest x 64
 ·rw[h4]at b64
  go_wp2
  go_end0
  exact uh HEND wz none sl0 st8 (B2.refl _ _ _) (by unfold pass?;rw[h4];exact Stp.pure _ _) (uh HS8) (uh HP8) (row0 _ _ _ _)
 ·rw[h4]at b64
  go_wp2_with fail
  refine (bin_pg R st8 w0 _ (uh HS8)).mono ?_
  rintro e wa ⟨u,sta,rfl,hsa,ha,hxa⟩
  have hpa:=((uh HP8).oth hxa hA).below (al (.cells #[.string u] 9))
  have c13:=hpa.pass
  have f13:=hpa.pass_f
  simp only[pk0]at c13
  have HPa:=zh hpa
  have HSa:=zh ha
  have HXa:=zh hxa
  have HSTa:=zh hsa
  clear ha hxa hsa hpa
  go_wp2
  go_end0
  have hqe:wz.heap.size<=wa.heap.size:=(uh HXa).size
  exact uh HEND _ (some u) ⟨some ⟨wa.heap.size,0,none⟩,1,1⟩ sta (((B2.bx (uh HXa)).trans (B2.bel (al _))).set 13 _) (by unfold pass?;rw[if_pos h4];exact (uh HSTa).bind (Stp.pure _ _)) (((uh HSa).below (al _)).set A 13 _ hA hA0) ((uh HPa).set_pass ⟨some ⟨wa.heap.size,0,none⟩,1,1⟩) (new_row (Nat.lt_of_lt_of_le hAwz hqe) hqe rfl rfl)
def Listscodes (w0:GW) (R A:Nat) (p:Pkv) (st:Option (List Int)) (w:World) (e:Ending) (w':World):Prop :=
 e=.returned (.tuple #[])/\∃ (i:Int) (s:Sl) (x:List Pr) (t:Sl) (d:List Int) (st':Option (List Int)),Pk w' A { p with id:=i,props:=s,codes:=t }/\Hid (w'.ownsRow w.heap.size 109 4 s.val x.length (pcs x))/\Hid (w'.ownsRow w.heap.size 3 1 t.val d.length (d.map (Value.int .i64)))/\Stp (pglist? p.kind one?) st (i,x,d) st'/\RP w0 w' R st'/\B2 R A w w'
theorem lists_codes (R A:Nat) (p:Pkv) (st:Option (List Int)) (w0:GW) (w:World) (h:RP w0 w R st) (hp:Pk w A p) (hA:A≠R) (hA0:w0.heap.size<=A) (hF:p.codes=⟨none,0,0⟩) (hl:∀ l,st=some l->l.length<=65536) (h8:p.kind≠8) (h10:p.kind≠10):Calls Tryz.prog 68 #[.pointer (some ⟨R,0,none⟩),.pointer (some ⟨A,0,none⟩)] w (Listscodes w0 R A p st w):=by
 obtain⟨i0,hi0,hz0,hz1,hz2⟩:=info_parts infoInt
 have hRw:=h.lt
 have hAw:=hp.lt
 have hw0:=h.keep.size
 have HP:=zh hp
 have HS:=zh h
 have HL:=zh hl
 have HF:=zh hF
 skip
 clear hp h hl hF
 go_enter Tryz.func68,Tryz.ntmps68
 go_wp2_with fail
 refine (pair_pg R st w0 w (uh HS)).mono ?_
 rintro e w1 ⟨i,st1,rfl,hir,hs1,h1,hx1⟩
 have hp1:=(uh HP).oth hx1 hA
 have c5:=hp1.id
 have f5:=hp1.id_f
 have c0:=hp1.kind
 have HP1:=zh (hp1.set_id i)
 have HS1:=zh (h1.set A 5 (.int .i64 i) hA hA0)
 have HB1:Hid (B2 R A w (w1.setCell ⟨A,5,none⟩ (.int .i64 i))):=(B2.bx hx1).set 5 _
 have HST1:=zh hs1
 have HL1:=zh (stp_leq two?_shw hs1 (uh HL))
 clear hp1 h1 hx1 hs1 hir
 go_wp2_with fail
 refine (props_pg R _ st1 w0 _ (uh HS1)).mono ?_
 rintro e w2 ⟨s,x1,st2,rfl,hO2,hs2,h2,hx2⟩
 have hp2:=(uh HP1).oth hx2 hA
 have c7:=hp2.props
 have f7:=hp2.props_f
 have HP2:=zh (hp2.set_props s)
 have HS2:=zh (h2.set A 7 s.val hA hA0)
 have HB2:Hid (B2 R A w (w2.setCell ⟨A,7,none⟩ s.val)):=((uh HB1).trans (B2.bx hx2)).set 7 _
 have HST2:=zh hs2
 have HL2:=zh (stp_leq (props?_shw p.kind) hs2 (uh HL1))
 have HO2:Hid ((w2.setCell ⟨A,7,none⟩ s.val).ownsRow w.heap.size 109 4 s.val x1.length (pcs x1)):=owns_mono (owns_b2 (R:=R) (uh hO2) ((B2.refl R A w2).set 7 _) (Nat.lt_of_lt_of_le hRw (uh HB1).size) (Nat.lt_of_lt_of_le hAw (uh HB1).size)) (uh HB1).size
 clear hp2 h2 hx2 hs2 c5 f5 c0 hO2 HP1 HS1
 go_wp2
 generalize w2.setCell ⟨A,7,none⟩ s.val=wl at HP2 HS2 HB2 HO2 |-
 have hwl:w.heap.size<=wl.heap.size:=(uh HB2).size
 have hlt:R < wl.heap.size:=Nat.lt_of_lt_of_le hRw hwl
 have hla:A < wl.heap.size:=Nat.lt_of_lt_of_le hAw hwl
 have h0w:w0.heap.size<=wl.heap.size:=Nat.le_trans hw0 hwl
 clear c7 f7
 go_loopw [4] (fun n0 wr=>∃ (d:List Int) (st3:Option (List Int)) (t:Sl) (k:Nat),n0=.int .i64 k/\k<=65536/\Hid (d.length=k)/\Hid (∀ l,st3=some l->k+l.length<=65536)/\Hid (Pk wr A { p with id:=i,props:=s,codes:=t })/\Hid (wr.ownsRow wl.heap.size 3 1 t.val k (d.map (Value.int .i64)))/\Hid (Acc one? st2 d st3)/\Hid (RP w0 wr R st3)/\Hid (B2 R A wl wr)) (fun _ wr=>mlp R wr)
 case atStart =>
  refine⟨[],st2,⟨none,0,0⟩,0,rfl,Nat.zero_le _,rfl,fun l hl=>by have:=(uh HL2) l hl;omega,?_,World.ownsRow_nil _ _ _ _,Acc.start _ _,uh HS2,B2.refl _ _ _⟩
  show Pk _ _ _
  have e:{ p with id:=i,props:=s,codes:=⟨none,0,0⟩ }={ p with id:=i,props:=s }:=by rw[<- uh HF]
  rw[e]
  exact uh HP2
 case round =>
  obtain⟨d,st3,⟨ta,tn,tc⟩,k,rfl,hk,HD,HLN,HPk,HOwn,HAcc,HRP,HBB⟩:=hrel
  go_wp2_with fail
  refine (more_pg R st3 w0 wr (uh HRP)).mono ?_
  rintro e wm ⟨rfl,hbm⟩
  cases hm:moreB st3
  ·have hwlR:R < w.heap.size:=hRw
   have hwlA:A < w.heap.size:=hAw
   have HEND:Hid (∀ b:Bool,(!(i == 0) && mc (k:Nat))=b->∀ W,(if b then W=wm else W=wm.setCell ⟨R,2,none⟩ (.bool true))->Listscodes w0 R A p st w (.returned (.tuple #[])) W):=by
    intro b hb W hW
    have hO:wm.ownsRow wl.heap.size 3 1 (Sl.val ⟨ta,tn,tc⟩) d.length (d.map (Value.int .i64)):=by rw[uh HD];exact owns_below (uh HOwn) hbm
    have hst:Stp (pglist? p.kind one?) st (i,x1,d) (if b then st3 else none):=(uh HST1).bind ((uh HST2).bind (((uh HAcc).done (moreB_no hm)).bind ((?_:Stp (mustR (!(i == 0) && mc d.length)) st3 () (if b then st3 else none)).bind (Stp.pure _ _))))
    ·have hBB:=(uh HBB).trans (B2.bel hbm)
     cases b
     ·obtain rfl:W=wm.setCell ⟨R,2,none⟩ (.bool true):=hW
      exact⟨rfl,i,s,x1,⟨ta,tn,tc⟩,d,none,((uh HPk).below hbm).blk (Below.heap_setCell _ _ _ _ hA),owns_b2 (uh HO2) (hBB.setR 2 _) hwlR hwlA,owns_mono (owns_b2 (A:=A) hO ((B2.refl R A wm).setR 2 _) hlt hla) hwl,hst,((uh HRP).below hbm).bad,(uh HB2).trans (hBB.setR 2 _)⟩
     ·obtain rfl:W=wm:=hW
      exact⟨rfl,i,s,x1,⟨ta,tn,tc⟩,d,st3,(uh HPk).below hbm,owns_b2 (uh HO2) hBB hwlR hwlA,owns_mono hO hwl,hst,(uh HRP).below hbm,(uh HB2).trans hBB⟩
    ·rw[uh HD,hb]
     exact Stp.must b st3
   obtain⟨bb,c2m,f2m,_⟩:=((uh HRP).below hbm).c2
   have c5m:=((uh HPk).below hbm).id
   simp only at c5m
   clear hm hbm HD HLN HPk HOwn HAcc HRP HBB
   by_cases hi0:i=0
   ·subst hi0
    go_wp2
    go_end0
    exact uh HEND false rfl _ rfl
   ·have hib:(i == 0)=false:=by simpa using hi0
    by_cases hk0:k=0
    ·subst hk0
     go_wp2
     go_end0
     exact uh HEND false (by rw[hib];rfl) _ rfl
    ·have hkb:((k:Int) == 0)=false:=by simp;omega
     by_cases hk16:16 < k
     ·go_wp2
      go_end0
      exact uh HEND false (by rw[hib];unfold mc;rw[decide_eq_false (show ¬ (k:Int)<=16 by omega)];simp) _ rfl
     ·go_wp2
      go_end0
      exact uh HEND true (by rw[hib];unfold mc;rw[decide_eq_true (show (1:Int)<=k by omega),decide_eq_true (show (k:Int)<=16 by omega)];rfl) _ rfl
  ·obtain⟨l,rfl,hl0⟩:=moreB_yes hm
   have hbd:=bel_drew wm
   have hbm':Below wr.heap.size wr wm.drew:=hbm.trans (hbd.mono hbm.size)
   have HPm:=zh ((uh HPk).below hbm)
   have HRPm:=zh ((uh HRP).below hbm)
   have HBBm:Hid (B2 R A wl wm):=(uh HBB).trans (B2.bel hbm)
   have HOm:Hid (wm.ownsRow wl.heap.size 3 1 (.slice ta tn tc) k (d.map (Value.int .i64))):=owns_below (uh HOwn) hbm
   have HPd:=zh ((uh HPk).below hbm')
   have HRPd:=zh ((uh HRP).below hbm')
   have HBBd:Hid (B2 R A wl wm.drew):=(uh HBB).trans (B2.bel hbm')
   have HOd:Hid (wm.drew.ownsRow wl.heap.size 3 1 (.slice ta tn tc) k (d.map (Value.int .i64))):=owns_below (uh HOwn) hbm'
   have c0:=(uh HPm).kind
   simp only at c0
   have cF:wm.cell? ⟨A,18,none⟩=some (.slice ta tn tc):=(uh HPm).codes
   skip
   clear hbd hbm hbm' hm HPk HOwn HBB
   go_wp2_with fail
   refine wp_region_noPanic ?_
   refine wp_region_held_drew (S:=fun _=>True) (by kernel_rfl) trivial (fun hHeld=>?_)
   refine rtk 0 (h:=?_)
   refine rtk 1 (h:=?_)
   refine rtk 2 (h:=?_)
   refine rtk 3 (h:=?_)
   refine rtk 5 (h:=?_)
   refine wpAnyH_ready (rs:=[4,6]) (by kernel_rfl) (by simp) ?_
   refine rac (h:=fun K hK=>?ra) (hs:=(rac (h:=fun K hK=>?rb) (hs:=AllReadyH.nil)))
   case' ra =>
    go_simp
    refine hK.out _ _ trivial (fun hHeld=>?_)
    clear hK K
    refine rcl 6 (h:=fun K hK=>?_)
    go_simp
    refine (byte_pg R (some l) w0 _ (uh HRPd)).mono ?_
    rintro e w4 ⟨x,st4,rfl,-,hs4,h4,hx4⟩
    have hp4:=(uh HPd).oth hx4 hA
    have cF4:w4.cell? ⟨A,18,none⟩=some (.slice ta tn tc):=hp4.codes
    have cF5:(w4.alloc (.cells #[.int .i64 x] 3)).cell? ⟨A,18,none⟩=some (.slice ta tn tc):=(World.cell?_alloc_lt _ _ ⟨A,18,none⟩ hp4.lt).trans cF4
    have HP4:=zh hp4
    have HRP4:=zh h4
    have HST4:=zh hs4
    have HBB4:Hid (B2 R A wl w4):=(uh HBBd).trans (B2.bx hx4)
    have HO4:Hid (w4.ownsRow wl.heap.size 3 1 (.slice ta tn tc) k (d.map (Value.int .i64))):=owns_b2 (A:=A) (uh HOd) (B2.bx hx4) hlt hla
    clear hx4 h4 hs4 hp4 HPd HRPd HBBd HOd
    refine hK.out _ _ trivial (fun hHeld=>?_)
    clear hK K
    refine rcl 7 (h:=fun K hK=>?_)
    go_simp
    refine hK.out _ _ trivial (fun hHeld=>?_)
    clear hK K
   case' rb =>
    go_simp
    refine (byte_pg R (some l) w0 _ (uh HRPd)).mono ?_
    rintro e w4 ⟨x,st4,rfl,-,hs4,h4,hx4⟩
    have hp4:=(uh HPd).oth hx4 hA
    have cF4:w4.cell? ⟨A,18,none⟩=some (.slice ta tn tc):=hp4.codes
    have cF5:(w4.alloc (.cells #[.int .i64 x] 3)).cell? ⟨A,18,none⟩=some (.slice ta tn tc):=(World.cell?_alloc_lt _ _ ⟨A,18,none⟩ hp4.lt).trans cF4
    have HP4:=zh hp4
    have HRP4:=zh h4
    have HST4:=zh hs4
    have HBB4:Hid (B2 R A wl w4):=(uh HBBd).trans (B2.bx hx4)
    have HO4:Hid (w4.ownsRow wl.heap.size 3 1 (.slice ta tn tc) k (d.map (Value.int .i64))):=owns_b2 (A:=A) (uh HOd) (B2.bx hx4) hlt hla
    clear hx4 h4 hs4 hp4 HPd HRPd HBBd HOd
    refine hK.out _ _ trivial (fun hHeld=>?_)
    clear hK K
    refine wpAnyH_ready (rs:=[4,7]) (by kernel_rfl) (by simp) ?_
    refine rac (h:=fun K hK=>?rc) (hs:=(rac (h:=fun K hK=>?rd) (hs:=AllReadyH.nil)))
    case' rc =>
     go_simp
     refine hK.out _ _ trivial (fun hHeld=>?_)
     clear hK K
     refine rcl 7 (h:=fun K hK=>?_)
     go_simp
     refine hK.out _ _ trivial (fun hHeld=>?_)
     clear hK K
    case' rd =>
     go_simp
     refine hK.out _ _ trivial (fun hHeld=>?_)
     clear hK K
     refine rcl 4 (h:=fun K hK=>?_)
     go_simp
     refine hK.out _ _ trivial (fun hHeld=>?_)
     clear hK K
   all_goals (
    have hsz4:wl.heap.size<=w4.heap.size:=(uh HBB4).size
    refine rcl 8 (h:=fun K hK=>?_)
    refine step_append_run (Z:=fun v' w'=>w'.ownsRow wl.heap.size 3 1 v' (k+1) ((d.map (Value.int .i64))++[.int .i64 x])/\(w4.alloc (.cells #[.int .i64 x] 3)).grownBy w' (Value.slice ta tn tc).ownBlock) rfl _ _ 27 rfl (.slice ta tn tc) (.slice (some ⟨w4.heap.size,0,none⟩) 1 1) rfl rfl ?hr ?_
    case hr =>
     obtain⟨v6,w6,h1,h2,h3,_⟩:=run_append_own (P:=Tryz.prog) (w:=(w4.alloc (.cells #[.int .i64 x] 3))) wl.heap.size 27 27 3 i0 _ 1 8 Tryz.underlying27 hi0 hz0 hz1 hz2 rfl (by decide) (.slice ta tn tc) k _ ((uh HO4).alloc _) ⟨w4.heap.size,0,none⟩ 1 1 [.int .i64 x] rfl (one_cell _ _ _) (one_one _ _) (by unfold maxLen;omega) (by omega) (by simp;omega)
     exact⟨v6,w6,h1,h2,h3⟩
    rintro v6 w6 ⟨hO6,hg6⟩
    have hrow:∀ g,(Value.slice ta tn tc).ownBlock=some g->wl.heap.size<=g/\g < w4.heap.size:=fun g hg=>(uh HO4).lt g hg
    have hrR:(Value.slice ta tn tc).ownBlock≠some R:=fun e=>by have:=(hrow R e).1;omega
    have hrA:(Value.slice ta tn tc).ownBlock≠some A:=fun e=>by have:=(hrow A e).1;omega
    have HP6:Hid (Pk w6 A { p with id:=i,props:=s,codes:=⟨ta,tn,tc⟩ }):=((uh HP4).below (bal _ _)).grown hg6 hrA
    have HRP6:Hid (RP w0 w6 R st4):=((uh HRP4).below (bal _ _)).grown hg6 hrR (fun g hg=>Nat.le_trans h0w (hrow g hg).1)
    have HBB6:Hid (B2 R A wl w6):=((uh HBB4).trans (B2.bel (bal _ _))).grown hg6 (fun g hg=>(hrow g hg).1)
    obtain⟨⟨sa,sn,sc⟩,hv6,_⟩:=owns_sl hO6
    have hv6:v6=.slice sa sn sc:=hv6
    subst hv6
    have HO6:=zh hO6
    have cF6:w6.cell? ⟨A,18,none⟩=some (.slice ta tn tc):=(uh HP6).codes
    have fF6:w6.frozen? ⟨A,18,none⟩=false:=(uh HP6).codes_f
    clear hO6 hg6 hrow cF4 cF5 HP4 HRP4 HBB4
    refine hK.out _ _ trivial (fun hHeld=>?_)
    clear hK K
    simp only[Act.put,List.setIfInBounds_toArray,List.set_cons_zero,List.set_cons_succ]
    refine rtk 9 (h:=?_)
    refine rtk 10 (h:=?_)
    refine rcl 11 (h:=fun K hK=>?_)
    go_simp
    refine hK.out _ _ trivial (fun hHeld=>?_)
    clear hK K
    refine wpAnyH_done (by kernel_rfl) ?_ _
    refine NoPanic.normal ?_
    have HRP7:Hid (RP w0 (w6.setCell ⟨A,18,none⟩ (.slice sa sn sc)) R st4):=(uh HRP6).set A 18 _ hA hA0
    have HP7:Hid (Pk (w6.setCell ⟨A,18,none⟩ (.slice sa sn sc)) A { p with id:=i,props:=s,codes:=⟨sa,sn,sc⟩ }):=(uh HP6).set_codes ⟨sa,sn,sc⟩
    have HBB7:Hid (B2 R A wl (w6.setCell ⟨A,18,none⟩ (.slice sa sn sc))):=(uh HBB6).set 18 _
    have HO7:Hid ((w6.setCell ⟨A,18,none⟩ (.slice sa sn sc)).ownsRow wl.heap.size 3 1 (.slice sa sn sc) (k+1) ((d++[x]).map (Value.int .i64))):=by
     show World.ownsRow _ _ _ _ _ _ _
     rw[show ((d++[x]).map (Value.int .i64))=(d.map (Value.int .i64))++[.int .i64 x] from by simp]
     exact owns_b2 (R:=R) (uh HO6) ((B2.refl R A w6).set 18 _) hlt hla
    have HA7:Hid (Acc one? st2 (d++[x]) st4):=(uh HAcc).step one?_shr (uh HST4) hl0
    have HB7:Hid (∀ l',st4=some l'->(k+1)+l'.length<=65536):=by
     intro l' hl'
     subst hl'
     have h2:=stp_len one?_shr (uh HST4)
     have h3:=(uh HLN) l rfl
     omega
    have hM:mlp R (w6.setCell ⟨A,18,none⟩ (.slice sa sn sc)) < mlp R wr:=by
     rw[mlp_some (uh HRP)]
     cases st4 with
     | none=>rw[mlp_none (uh HRP7)];omega
     | some l' =>
      rw[mlp_some (uh HRP7)]
      have:=stp_len one?_shr (uh HST4)
      omega
    have hk1:k+1<=65536:=by
     have h3:=(uh HLN) l rfl
     have:=List.length_pos_iff.2 hl0
     omega
    have HD7:Hid ((d++[x]).length=k+1):=by show _=_;rw[List.length_append,uh HD];rfl
    clear HRP6 HP6 HBB6 HO6 cF6 fF6
    go_wp2
    go_roundw
    case rel=>exact⟨d++[x],st4,⟨sa,sn,sc⟩,k+1,by go_num,hk1,HD7,HB7,HP7,HO7,HA7,HRP7,HBB7⟩
    case measure=>exact hM)
end Go.Proofs.YtpheelbbpiieiaaGreatDoor.K
