/- Proved here: helpers, one text behind the other. -/
import Derived.Test.YtpheelbbpiieiaaGreatDoorZC7
import Derived.Deep.MidRow
namespace Go.Proofs.YtpheelbbpiieiaaGreatDoor.K
open Go.RowKit
set_option maxRecDepth 100000
def Pkv.cell (p:Pkv):Nat->Value
 | 0=>.int .i64 p.kind
 | 1=>.bool p.dup
 | 2=>.int .i64 p.qos
 | 3=>.bool p.retain
 | 4=>.string p.topic
 | 5=>.int .i64 p.id
 | 6=>.string p.payload
 | 7=>p.props.val
 | 8=>.string p.client
 | 9=>.bool p.clean
 | 10=>.int .i64 p.keep
 | 11=>p.wills.val
 | 12=>p.user.val
 | 13=>p.pass.val
 | 14=>.int .i64 p.code
 | 15=>.bool p.session
 | 16=>p.subs.val
 | 17=>p.filters.val
 | 18=>p.codes.val
 | _=>.nilIface
def Pk (w:World) (R:Nat) (p:Pkv):Prop:=∀ j,j < 19->w.cell? ⟨R,j,none⟩=some (p.cell j)/\w.frozen? ⟨R,j,none⟩=false
abbrev isF (j:Nat):Prop:=j≠1/\j≠19/\j≠20
abbrev isAny (_:Nat):Prop:=True
theorem BX.any {R:Nat} {may:Nat->Prop} {a b:World} (h:BX R may a b):BX R isAny a b:=h.weak (fun _ _=>trivial)
theorem Pk.bx {w w':World} {R:Nat} {p:Pkv} (h:Pk w R p) (hx:BX R isRE w w'):Pk w' R p:=fun j hj =>
 ⟨(hx.cell j (by unfold isRE;omega)).trans (h j hj).1,(hx.frozen j).trans (h j hj).2⟩
theorem Pk.below {w w':World} {R:Nat} {p:Pkv} (h:Pk w R p) (hb:Below w.heap.size w w'):Pk w' R p:=h.bx (BX.of_below hb (cell_lt (h 0 (by omega)).1))
theorem Pk.set {w:World} {R:Nat} {p:Pkv} (h:Pk w R p) (q:Pkv) (i:Nat) (hi:i < 19) (hq:∀ j,j≠i->q.cell j=p.cell j):Pk (w.setCell ⟨R,i,none⟩ (q.cell i)) R q:=fun j hj=>by
 refine⟨?_,by simpa using (h j hj).2⟩
 by_cases hji:j=i
 ·subst hji
  exact World.cell?_setCell_same _ _ _ (h j hj).1
 ·rw[World.cell?_setCell_other _ _ _ _ (by intro e;injection e with _ e;exact hji e.symm),hq j hji]
  exact (h j hj).1
theorem RSX.set {w0 w:World} {R:Nat} {X:Nat->Prop} {st:Option (List Int)} (h:RSX w0 w R X st) (j:Nat) (u:Value) (hj:isF j):RSX w0 (w.setCell ⟨R,j,none⟩ u) R X st :=
 h.move (may:=fun i=>i=j) ((BX.refl _ _ _).set j u rfl) (fun e=>hj.2.1 e.symm) (fun e=>hj.2.2 e.symm) (fun e=>hj.1 e.symm)
theorem BX.setOut {R:Nat} {may:Nat->Prop} {a b:World} (h:BX R may a b) (V j:Nat) (u:Value) (hV:a.heap.size<=V) (hR:R < a.heap.size):BX R may a (b.setCell ⟨V,j,none⟩ u) :=
 h.trans' ⟨rfl,rfl,rfl,by simp[World.setCell],fun k hk _=>Below.heap_setCell _ _ _ _ (by show k≠V;omega),fun i _=>World.cell?_setCell_other _ _ _ _ (fun e=>by injection e with e1 _;omega),fun i=>World.frozen?_setCell ..⟩
theorem ErO.setOut {w:World} {X:Nat->Prop} {V j:Nat} {u:Value} (hV:∀ t x,w.cell? ⟨V,1,none⟩≠some (.iface t x)):∀ {d:Nat} {v:Value} {n:Int},ErO w X d v n->ErO (w.setCell ⟨V,j,none⟩ u) X d v n
 | 0,_,_,h=>h
 | _+1,_,_,⟨b,u',h1,hR,h2,h3⟩=>⟨b,u',h1,hR,by
   rw[World.cell?_setCell_other _ _ _ _ (fun e=>by
    injection e with e1 _
    subst e1
    obtain⟨t,x,rfl⟩:=h3.iface
    exact hV t x h2)]
   exact h2,ErO.setOut hV h3⟩
theorem RSX.setOut {w0 w:World} {R:Nat} {X:Nat->Prop} {st:Option (List Int)} (h:RSX w0 w R X st) (V j:Nat) (u:Value) (hR:V≠R) (h0:w0.heap.size<=V) (hV:∀ t x,w.cell? ⟨V,1,none⟩≠some (.iface t x)):RSX w0 (w.setCell ⟨V,j,none⟩ u) R X st:=by
 obtain⟨hX,⟨x,hd⟩,bv,l,E,⟨r1,r2,r3,r4⟩,hb,hw,hR0,hst⟩:=h
 have ne:∀ i,(⟨V,j,none⟩:Addr)≠⟨R,i,none⟩:=fun i e=>by injection e with e1 _;exact hR e1
 refine⟨xs_grow hX (by simp[World.setCell]),⟨x,(World.cell?_setCell_other _ _ _ _ (ne 1)).trans hd⟩,bv,l,E,⟨(World.cell?_setCell_other _ _ _ _ (ne 19)).trans r1,by simpa using r2,(World.cell?_setCell_other _ _ _ _ (ne 20)).trans r3,by simpa using r4⟩,hb,⟨hw.os,hw.tape,hw.output,by simpa [World.setCell] using hw.size,fun k hk=>(Below.heap_setCell _ _ _ _ (by show k≠V;omega)).trans (hw.block k hk)⟩,hR0,?_⟩
 rcases hst with h | ⟨h,d,n,hd,he⟩
 ·exact .inl h
 ·exact .inr ⟨h,d,n,hd,he.setOut hV⟩
theorem owns_bx {w w':World} {R:Nat} {may:Nat->Prop} {B:Nat} {e:TypeId} {s:Nat} {v:Value} {n:Nat} {xs:List Value} (h:w.ownsRow B e s v n xs) (hx:BX R may w w') (hR:R < B):w'.ownsRow B e s v n xs:=by
 refine⟨h.1,?_⟩
 rcases h.2 with h1 | ⟨g,cap,cur,hv,hB,hg,rest⟩
 ·exact .inl h1
 ·exact .inr ⟨g,cap,cur,hv,hB,by rw[hx.block g (Array.getElem?_eq_some_iff.1 hg).1 (by omega)];exact hg,rest⟩
theorem owns_sl {w:World} {B:Nat} {e:TypeId} {s:Nat} {v:Value} {n:Nat} {xs:List Value} (h:w.ownsRow B e s v n xs):∃ t:Sl,v=t.val/\t.n=n:=by
 rcases h.2 with⟨rfl,h1⟩ | ⟨g,cap,cur,hv,_⟩
 ·exact⟨⟨none,0,0⟩,rfl,h1.symm⟩
 ·exact⟨⟨_,n,cap⟩,hv,rfl⟩
theorem Pk.kind {w:World} {R:Nat} {p:Pkv} (h:Pk w R p):w.cell? ⟨R,0,none⟩=some (.int .i64 p.kind):=(h 0 (by omega)).1
theorem Pk.dup {w:World} {R:Nat} {p:Pkv} (h:Pk w R p):w.cell? ⟨R,1,none⟩=some (.bool p.dup):=(h 1 (by omega)).1
theorem Pk.qos {w:World} {R:Nat} {p:Pkv} (h:Pk w R p):w.cell? ⟨R,2,none⟩=some (.int .i64 p.qos):=(h 2 (by omega)).1
theorem Pk.retain {w:World} {R:Nat} {p:Pkv} (h:Pk w R p):w.cell? ⟨R,3,none⟩=some (.bool p.retain):=(h 3 (by omega)).1
theorem Pk.topic {w:World} {R:Nat} {p:Pkv} (h:Pk w R p):w.cell? ⟨R,4,none⟩=some (.string p.topic):=(h 4 (by omega)).1
theorem Pk.topic_f {w:World} {R:Nat} {p:Pkv} (h:Pk w R p):w.frozen? ⟨R,4,none⟩=false:=(h 4 (by omega)).2
theorem Pk.set_topic {w:World} {R:Nat} {p:Pkv} (h:Pk w R p) (x:ByteArray):Pk (w.setCell ⟨R,4,none⟩ (.string x)) R { p with topic:=x }:=h.set { p with topic:=x } 4 (by omega) (fun j hj=>by unfold Pkv.cell;split <;> first | rfl | exact absurd rfl hj)
theorem Pk.id {w:World} {R:Nat} {p:Pkv} (h:Pk w R p):w.cell? ⟨R,5,none⟩=some (.int .i64 p.id):=(h 5 (by omega)).1
theorem Pk.id_f {w:World} {R:Nat} {p:Pkv} (h:Pk w R p):w.frozen? ⟨R,5,none⟩=false:=(h 5 (by omega)).2
theorem Pk.set_id {w:World} {R:Nat} {p:Pkv} (h:Pk w R p) (x:Int):Pk (w.setCell ⟨R,5,none⟩ (.int .i64 x)) R { p with id:=x }:=h.set { p with id:=x } 5 (by omega) (fun j hj=>by unfold Pkv.cell;split <;> first | rfl | exact absurd rfl hj)
theorem Pk.payload {w:World} {R:Nat} {p:Pkv} (h:Pk w R p):w.cell? ⟨R,6,none⟩=some (.string p.payload):=(h 6 (by omega)).1
theorem Pk.payload_f {w:World} {R:Nat} {p:Pkv} (h:Pk w R p):w.frozen? ⟨R,6,none⟩=false:=(h 6 (by omega)).2
theorem Pk.set_payload {w:World} {R:Nat} {p:Pkv} (h:Pk w R p) (x:ByteArray):Pk (w.setCell ⟨R,6,none⟩ (.string x)) R { p with payload:=x }:=h.set { p with payload:=x } 6 (by omega) (fun j hj=>by unfold Pkv.cell;split <;> first | rfl | exact absurd rfl hj)
theorem Pk.props {w:World} {R:Nat} {p:Pkv} (h:Pk w R p):w.cell? ⟨R,7,none⟩=some (p.props.val):=(h 7 (by omega)).1
theorem Pk.props_f {w:World} {R:Nat} {p:Pkv} (h:Pk w R p):w.frozen? ⟨R,7,none⟩=false:=(h 7 (by omega)).2
theorem Pk.set_props {w:World} {R:Nat} {p:Pkv} (h:Pk w R p) (x:Sl):Pk (w.setCell ⟨R,7,none⟩ (x.val)) R { p with props:=x }:=h.set { p with props:=x } 7 (by omega) (fun j hj=>by unfold Pkv.cell;split <;> first | rfl | exact absurd rfl hj)
theorem Pk.client {w:World} {R:Nat} {p:Pkv} (h:Pk w R p):w.cell? ⟨R,8,none⟩=some (.string p.client):=(h 8 (by omega)).1
theorem Pk.client_f {w:World} {R:Nat} {p:Pkv} (h:Pk w R p):w.frozen? ⟨R,8,none⟩=false:=(h 8 (by omega)).2
theorem Pk.set_client {w:World} {R:Nat} {p:Pkv} (h:Pk w R p) (x:ByteArray):Pk (w.setCell ⟨R,8,none⟩ (.string x)) R { p with client:=x }:=h.set { p with client:=x } 8 (by omega) (fun j hj=>by unfold Pkv.cell;split <;> first | rfl | exact absurd rfl hj)
theorem Pk.clean {w:World} {R:Nat} {p:Pkv} (h:Pk w R p):w.cell? ⟨R,9,none⟩=some (.bool p.clean):=(h 9 (by omega)).1
theorem Pk.clean_f {w:World} {R:Nat} {p:Pkv} (h:Pk w R p):w.frozen? ⟨R,9,none⟩=false:=(h 9 (by omega)).2
theorem Pk.set_clean {w:World} {R:Nat} {p:Pkv} (h:Pk w R p) (x:Bool):Pk (w.setCell ⟨R,9,none⟩ (.bool x)) R { p with clean:=x }:=h.set { p with clean:=x } 9 (by omega) (fun j hj=>by unfold Pkv.cell;split <;> first | rfl | exact absurd rfl hj)
theorem Pk.keep {w:World} {R:Nat} {p:Pkv} (h:Pk w R p):w.cell? ⟨R,10,none⟩=some (.int .i64 p.keep):=(h 10 (by omega)).1
theorem Pk.keep_f {w:World} {R:Nat} {p:Pkv} (h:Pk w R p):w.frozen? ⟨R,10,none⟩=false:=(h 10 (by omega)).2
theorem Pk.set_keep {w:World} {R:Nat} {p:Pkv} (h:Pk w R p) (x:Int):Pk (w.setCell ⟨R,10,none⟩ (.int .i64 x)) R { p with keep:=x }:=h.set { p with keep:=x } 10 (by omega) (fun j hj=>by unfold Pkv.cell;split <;> first | rfl | exact absurd rfl hj)
theorem Pk.wills {w:World} {R:Nat} {p:Pkv} (h:Pk w R p):w.cell? ⟨R,11,none⟩=some (p.wills.val):=(h 11 (by omega)).1
theorem Pk.wills_f {w:World} {R:Nat} {p:Pkv} (h:Pk w R p):w.frozen? ⟨R,11,none⟩=false:=(h 11 (by omega)).2
theorem Pk.set_wills {w:World} {R:Nat} {p:Pkv} (h:Pk w R p) (x:Sl):Pk (w.setCell ⟨R,11,none⟩ (x.val)) R { p with wills:=x }:=h.set { p with wills:=x } 11 (by omega) (fun j hj=>by unfold Pkv.cell;split <;> first | rfl | exact absurd rfl hj)
theorem Pk.user {w:World} {R:Nat} {p:Pkv} (h:Pk w R p):w.cell? ⟨R,12,none⟩=some (p.user.val):=(h 12 (by omega)).1
theorem Pk.user_f {w:World} {R:Nat} {p:Pkv} (h:Pk w R p):w.frozen? ⟨R,12,none⟩=false:=(h 12 (by omega)).2
theorem Pk.set_user {w:World} {R:Nat} {p:Pkv} (h:Pk w R p) (x:Sl):Pk (w.setCell ⟨R,12,none⟩ (x.val)) R { p with user:=x }:=h.set { p with user:=x } 12 (by omega) (fun j hj=>by unfold Pkv.cell;split <;> first | rfl | exact absurd rfl hj)
theorem Pk.pass {w:World} {R:Nat} {p:Pkv} (h:Pk w R p):w.cell? ⟨R,13,none⟩=some (p.pass.val):=(h 13 (by omega)).1
theorem Pk.pass_f {w:World} {R:Nat} {p:Pkv} (h:Pk w R p):w.frozen? ⟨R,13,none⟩=false:=(h 13 (by omega)).2
theorem Pk.set_pass {w:World} {R:Nat} {p:Pkv} (h:Pk w R p) (x:Sl):Pk (w.setCell ⟨R,13,none⟩ (x.val)) R { p with pass:=x }:=h.set { p with pass:=x } 13 (by omega) (fun j hj=>by unfold Pkv.cell;split <;> first | rfl | exact absurd rfl hj)
theorem Pk.code {w:World} {R:Nat} {p:Pkv} (h:Pk w R p):w.cell? ⟨R,14,none⟩=some (.int .i64 p.code):=(h 14 (by omega)).1
theorem Pk.code_f {w:World} {R:Nat} {p:Pkv} (h:Pk w R p):w.frozen? ⟨R,14,none⟩=false:=(h 14 (by omega)).2
theorem Pk.set_code {w:World} {R:Nat} {p:Pkv} (h:Pk w R p) (x:Int):Pk (w.setCell ⟨R,14,none⟩ (.int .i64 x)) R { p with code:=x }:=h.set { p with code:=x } 14 (by omega) (fun j hj=>by unfold Pkv.cell;split <;> first | rfl | exact absurd rfl hj)
theorem Pk.session {w:World} {R:Nat} {p:Pkv} (h:Pk w R p):w.cell? ⟨R,15,none⟩=some (.bool p.session):=(h 15 (by omega)).1
theorem Pk.session_f {w:World} {R:Nat} {p:Pkv} (h:Pk w R p):w.frozen? ⟨R,15,none⟩=false:=(h 15 (by omega)).2
theorem Pk.set_session {w:World} {R:Nat} {p:Pkv} (h:Pk w R p) (x:Bool):Pk (w.setCell ⟨R,15,none⟩ (.bool x)) R { p with session:=x }:=h.set { p with session:=x } 15 (by omega) (fun j hj=>by unfold Pkv.cell;split <;> first | rfl | exact absurd rfl hj)
theorem Pk.subs {w:World} {R:Nat} {p:Pkv} (h:Pk w R p):w.cell? ⟨R,16,none⟩=some (p.subs.val):=(h 16 (by omega)).1
theorem Pk.subs_f {w:World} {R:Nat} {p:Pkv} (h:Pk w R p):w.frozen? ⟨R,16,none⟩=false:=(h 16 (by omega)).2
theorem Pk.set_subs {w:World} {R:Nat} {p:Pkv} (h:Pk w R p) (x:Sl):Pk (w.setCell ⟨R,16,none⟩ (x.val)) R { p with subs:=x }:=h.set { p with subs:=x } 16 (by omega) (fun j hj=>by unfold Pkv.cell;split <;> first | rfl | exact absurd rfl hj)
theorem Pk.filters {w:World} {R:Nat} {p:Pkv} (h:Pk w R p):w.cell? ⟨R,17,none⟩=some (p.filters.val):=(h 17 (by omega)).1
theorem Pk.filters_f {w:World} {R:Nat} {p:Pkv} (h:Pk w R p):w.frozen? ⟨R,17,none⟩=false:=(h 17 (by omega)).2
theorem Pk.set_filters {w:World} {R:Nat} {p:Pkv} (h:Pk w R p) (x:Sl):Pk (w.setCell ⟨R,17,none⟩ (x.val)) R { p with filters:=x }:=h.set { p with filters:=x } 17 (by omega) (fun j hj=>by unfold Pkv.cell;split <;> first | rfl | exact absurd rfl hj)
theorem Pk.codes {w:World} {R:Nat} {p:Pkv} (h:Pk w R p):w.cell? ⟨R,18,none⟩=some (p.codes.val):=(h 18 (by omega)).1
theorem Pk.codes_f {w:World} {R:Nat} {p:Pkv} (h:Pk w R p):w.frozen? ⟨R,18,none⟩=false:=(h 18 (by omega)).2
theorem Pk.set_codes {w:World} {R:Nat} {p:Pkv} (h:Pk w R p) (x:Sl):Pk (w.setCell ⟨R,18,none⟩ (x.val)) R { p with codes:=x }:=h.set { p with codes:=x } 18 (by omega) (fun j hj=>by unfold Pkv.cell;split <;> first | rfl | exact absurd rfl hj)
theorem RSX.rest {w0 w:World} {R:Nat} {X:Nat->Prop} {st:Option (List Int)} (h:RSX w0 w R X st):∃ ao n cap,w.cell? ⟨R,19,none⟩=some (.slice ao n cap)/\(n<=cap/\cap<=maxLen)/\∀ l,st=some l->l.length=n:=by
 obtain⟨_,_,bv,l,E,hr,hb,_,_,hst⟩:=h
 obtain⟨ao,cap,rfl,hc⟩:=hb.form
 refine⟨ao,l.length,cap,hr.1,hc,fun l' hl=>?_⟩
 rcases hst with⟨rfl,_⟩ | ⟨rfl,_⟩
 ·cases hl;rfl
 ·cases hl
def Pkv.cells (p:Pkv):List Value:=[.int .i64 p.kind,.bool p.dup,.int .i64 p.qos,.bool p.retain,.string p.topic,.int .i64 p.id,.string p.payload,p.props.val,.string p.client,.bool p.clean,.int .i64 p.keep,p.wills.val,p.user.val,p.pass.val,.int .i64 p.code,.bool p.session,p.subs.val,p.filters.val,p.codes.val]
theorem Pk.range {w:World} {R:Nat} {q:Pkv} (h:Pk w R q):w.rangeAt R 0 q.cells:=by
 intro j v hj
 have hl:j < 19:=(List.getElem?_eq_some_iff.1 hj).1
 rw[Nat.zero_add,(h j hl).1,<- hj]
 match j,hl with
 | 0,_=>rfl
 | 1,_=>rfl
 | 2,_=>rfl
 | 3,_=>rfl
 | 4,_=>rfl
 | 5,_=>rfl
 | 6,_=>rfl
 | 7,_=>rfl
 | 8,_=>rfl
 | 9,_=>rfl
 | 10,_=>rfl
 | 11,_=>rfl
 | 12,_=>rfl
 | 13,_=>rfl
 | 14,_=>rfl
 | 15,_=>rfl
 | 16,_=>rfl
 | 17,_=>rfl
 | 18,_=>rfl
theorem packet_size:(Tryz.prog.info? 29).map (·.size)=some 19:=by kernel_rfl
theorem Pkv.ones (q:Pkv):∀ v ∈ q.cells,v.oneCell'=true:=by
 intro v hv
 simp only[Pkv.cells,List.mem_cons,List.not_mem_nil,or_false]at hv
 rcases hv with rfl | rfl | rfl | rfl | rfl | rfl | rfl | rfl | rfl | rfl | rfl | rfl | rfl | rfl | rfl | rfl | rfl | rfl | rfl <;> rfl
theorem Pkv.ones' (q:Pkv):q.cells.toArray.all (·.oneCell')=true:=all_oneCell_toArray q.ones
theorem Pk.there {w:World} {R:Nat} {q:Pkv} (h:Pk w R q) (r:Pkv):w.there R 0 r.cells.toArray.size:=fun j hj=>by
 have hj:j < 19:=hj
 rw[Nat.zero_add,(h j hj).1]
 exact⟨rfl,(h j hj).2⟩
theorem cells_get (q:Pkv) (j:Nat) (hj:j < 19):q.cells[j]?=some (q.cell j):=by
 match j,hj with
 | 0,_=>rfl
 | 1,_=>rfl
 | 2,_=>rfl
 | 3,_=>rfl
 | 4,_=>rfl
 | 5,_=>rfl
 | 6,_=>rfl
 | 7,_=>rfl
 | 8,_=>rfl
 | 9,_=>rfl
 | 10,_=>rfl
 | 11,_=>rfl
 | 12,_=>rfl
 | 13,_=>rfl
 | 14,_=>rfl
 | 15,_=>rfl
 | 16,_=>rfl
 | 17,_=>rfl
 | 18,_=>rfl
 | n+19,h=>exact absurd h (by omega)
theorem Pk.stored {w:World} {R:Nat} {q:Pkv} (h:Pk w R q) (r:Pkv):Pk (w.setCells R 0 r.cells) R r:=fun j hj=>by
 have k:=World.rangeAt_setCells_same w R 0 r.cells (h.there r) j _ (cells_get r j hj)
 rw[Nat.zero_add]at k
 exact⟨k,by rw[World.frozen?_setCells];exact (h j hj).2⟩
theorem setCells_below {w0 w:World} {B R o:Nat} {vs:List Value} (h:Below B w0 w) (hR:B<=R):Below B w0 (w.setCells R o vs):=by
 induction vs generalizing w o with
 | nil=>exact h
 | cons v vs ih =>
  rw[World.setCells]
  refine ih ?_
  exact⟨h.os,h.tape,h.output,by simpa [World.setCell] using h.size,fun k hk=>(Below.heap_setCell _ _ _ _ (by show k≠R;omega)).trans (h.block k hk)⟩
theorem pk_new (w:World) (q:Pkv):Pk (w.alloc (.cells q.cells.toArray 29)) w.heap.size q:=fun j hj=>by
 refine⟨?_,by simp⟩
 have k:=heap_alloc_new w (.cells q.cells.toArray 29)
 unfold World.cell?
 dsimp only
 rw[k]
 simpa using cells_get q j hj
theorem res_pk2 {fn:Func} {a t:Tmp} (h:fn.results=#[.cell a 29,.tmp t]) {tmps:Array Value} {w:World} {B:Nat} {q:Pkv} (ha:tmps[a]?.getD undef=.pointer (some ⟨B,0,none⟩)) (hq:Pk w B q):(results fn tmps).run Tryz.prog w=.ok (.tuple #[q.val,tmps[t]?.getD undef]) w:=by
 have k:=run_loadVar_mid (P:=Tryz.prog) w B 0 29 q.cells _ hq.range Tryz.underlying29 rfl packet_size
 simp[results,h,ha,asAddr,k]
 rfl
theorem res_pk3 {fn:Func} {a t u:Tmp} (h:fn.results=#[.cell a 29,.tmp t,.tmp u]) {tmps:Array Value} {w:World} {B:Nat} {q:Pkv} (ha:tmps[a]?.getD undef=.pointer (some ⟨B,0,none⟩)) (hq:Pk w B q):(results fn tmps).run Tryz.prog w=.ok (.tuple #[q.val,tmps[t]?.getD undef,tmps[u]?.getD undef]) w:=by
 have k:=run_loadVar_mid (P:=Tryz.prog) w B 0 29 q.cells _ hq.range Tryz.underlying29 rfl packet_size
 simp[results,h,ha,asAddr,k]
 rfl
end Go.Proofs.YtpheelbbpiieiaaGreatDoor.K
