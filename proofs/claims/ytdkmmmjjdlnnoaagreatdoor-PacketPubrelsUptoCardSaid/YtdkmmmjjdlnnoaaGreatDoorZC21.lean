/- Proved here: helpers, one text behind the other. -/
import Derived.Test.YtdkmmmjjdlnnoaaGreatDoorZC15
import Derived.Test.YtdkmmmjjdlnnoaaGreatDoorZC20
import Derived.Test.YtdkmmmjjdlnnoaaGreatDoorZC6
import Derived.Laws.AppendOwn
import Derived.Deep.Cut
import Derived.Deep.CutBlock
import Derived.Test.YtdkmmmjjdlnnoaaGreatDoorZC17
import Derived.Deep.RegionHeld3
import Derived.Test.YtdkmmmjjdlnnoaaGreatDoorZC14
import Derived.Test.YtdkmmmjjdlnnoaaGreatDoorZC11
import Derived.Test.YtdkmmmjjdlnnoaaGreatDoorZC5
set_option maxHeartbeats 20000000
namespace Go.Proofs.YtdkmmmjjdlnnoaaGreatDoor.K
open Go.RowKit
set_option maxRecDepth 100000
structure Sb where
 filter:ByteArray
 qos:Int
 nolocal:Bool
 aspub:Bool
 handling:Int
abbrev Sb.val (s:Sb):Value:=.agg #[.string s.filter,.int .i64 s.qos,.bool s.nolocal,.bool s.aspub,.int .i64 s.handling]
def btest (x k:Int):Bool:=decide (x / k % 2=1)
def sbOf (f:ByteArray) (o:Int):Sb:=⟨f,o % 4,btest o 4,btest o 8,o / 16⟩
def sub?:List Int->Option (Sb×List Int):=bindR text? fun f=>bindR one? fun o=>bindR (mustR (opk (o % 4) (o / 16))) fun _=>pureR (sbOf f o)
theorem byte_cases {P:Int->Prop} (h:∀ n:Fin 256,P (n.val:Int)) (x:Int) (h0:0<=x) (h1:x<=255):P x:=by
 obtain⟨n,rfl⟩:=Int.eq_ofNat_of_zero_le h0
 exact h ⟨n,by omega⟩
theorem bel_drew (w:World):Below w.heap.size w w.drew:=kbelow_drew w
def many {α:Type} (f:List Int->Option (α×List Int)):Nat->List Int->Option (List α×List Int)
 | 0,l=>if l=[] then some ([],[]) else none
 | n+1,l=>if l=[] then some ([],[]) else (f l).bind fun r=>(many f n r.2).map fun s=>(r.1 :: s.1,s.2)
def manyR {α:Type} (f:List Int->Option (α×List Int)) (l:List Int):Option (List α×List Int):=many f l.length l
theorem many_nil {α:Type} (f:List Int->Option (α×List Int)) (n:Nat):many f n []=some ([],[]):=by cases n <;> simp[many]
def Acc {α:Type} (f:List Int->Option (α×List Int)) (st0:Option (List Int)) (d:List α) (st:Option (List Int)):Prop :=
 match st0 with
 | none=>st=none
 | some l0=>match st with
  | none=>manyR f l0=none
  | some l=>manyR f l0=(manyR f l).map fun s=>(d++s.1,s.2)
theorem Acc.done {α:Type} {f:List Int->Option (α×List Int)} {st0 st:Option (List Int)} {d:List α} (h:Acc f st0 d st) (he:st=none\/st=some []):Stp (manyR f) st0 d st:=by
 cases st0 with
 | none=>exact h
 | some l0 =>
  rcases he with rfl | rfl
  ·have h:manyR f l0=none:=h
   simp[Stp,h]
  ·have h:manyR f l0=(manyR f []).map fun s=>(d++s.1,s.2):=h
   rw[show manyR f []=some ([],[]) from many_nil f 0]at h
   simp[Stp,h]
def list? {α:Type} (f:List Int->Option (α×List Int)):List Int->Option (List α×List Int):=bindR (manyR f) fun d=>bindR (mustR (mc d.length)) fun _=>pureR d
theorem RSX.err {w0 w:World} {R:Nat} {X:Nat->Prop} {st:Option (List Int)} (h:RSX w0 w R X st):(∃ l,st=some l/\w.cell? ⟨R,20,none⟩=some .nilIface)\/(st=none/\∃ t x,w.cell? ⟨R,20,none⟩=some (.iface t x)):=by
 obtain⟨_,_,bv,l',E,hr,hb,_,_,hst⟩:=h
 rcases hst with⟨e,rfl⟩ | ⟨e,d,n,_,he⟩
 ·exact .inl ⟨l',e,hr.2.2.1⟩
 ·obtain⟨t,x,rfl⟩:=he.iface
  exact .inr ⟨e,t,x,hr.2.2.1⟩
theorem RSX.grown {w0 w w':World} {R:Nat} {X:Nat->Prop} {st:Option (List Int)} {row:Option Nat} (h:RSX w0 w R X st) (hg:w.grownBy w' row) (hX:∀ g,row=some g->X g) (hR:row≠some R) (h0:∀ g,row=some g->w0.heap.size<=g):RSX w0 w' R X st:=by
 obtain⟨hXX,⟨x,hd⟩,bv,l,E,⟨r1,r2,r3,r4⟩,hb,hw,hR0,hst⟩:=h
 have hblk:w'.heap[R]?=w.heap[R]?:=hg.block R (cell_lt hd) (fun e=>hR e.symm)
 have hc:∀ j,w'.cell? ⟨R,j,none⟩=w.cell? ⟨R,j,none⟩:=fun j=>World.cell?_of_block hblk
 have hf:∀ j,w'.frozen? ⟨R,j,none⟩=w.frozen? ⟨R,j,none⟩:=fun j=>World.frozen?_of_block hblk
 refine⟨xs_grow hXX hg.size,⟨x,(hc 1).trans hd⟩,bv,l,E,⟨(hc 19).trans r1,(hf 19).trans r2,(hc 20).trans r3,(hf 20).trans r4⟩,hb,⟨hg.os.trans hw.os,hg.tape.trans hw.tape,hg.output.trans hw.output,Nat.le_trans hw.size hg.size,fun k hk=>(hg.block k (Nat.lt_of_lt_of_le hk hw.size) (fun e=>by have:=h0 k e.symm;omega)).trans (hw.block k hk)⟩,hR0,?_⟩
 have key:∀ {d:Nat} {v:Value} {n:Int},ErO w X d v n->ErO w' X d v n:=by
  intro d
  induction d with
  | zero=>intro v n h;exact h
  | succ d ih =>
   rintro v n ⟨b,u,h1,hR,h2,h3⟩
   exact⟨b,u,h1,hR,(World.cell?_of_block (a:=⟨b,1,none⟩) (hg.block b (cell_lt h2) (fun e=>hR (hX b e.symm)))).trans h2,ih h3⟩
 rcases hst with h | ⟨h,d,n,hd,he⟩
 ·exact .inl h
 ·exact .inr ⟨h,d,n,hd,key he⟩
theorem BX.grown {R:Nat} {may:Nat->Prop} {a b c:World} {row:Option Nat} (h:BX R may a b) (hg:b.grownBy c row) (hrow:∀ g,row=some g->a.heap.size<=g) (hR:R < a.heap.size):BX R may a c:=by
 have hblk:c.heap[R]?=b.heap[R]?:=hg.block R (Nat.lt_of_lt_of_le hR h.size) (fun e=>by have:=hrow R e.symm;omega)
 exact h.trans' ⟨hg.os,hg.tape,hg.output,hg.size,fun k hk _=>hg.block k (Nat.lt_of_lt_of_le hk h.size) (fun e=>by have:=hrow k e.symm;omega),fun j _=>World.cell?_of_block hblk,fun j=>World.frozen?_of_block hblk⟩
theorem Pk.grown {w w':World} {R:Nat} {p:Pkv} {row:Option Nat} (h:Pk w R p) (hg:w.grownBy w' row) (hR:row≠some R):Pk w' R p:=fun j hj=>by
 have hblk:w'.heap[R]?=w.heap[R]?:=hg.block R (cell_lt (h 0 (by omega)).1) (fun e=>hR e.symm)
 exact⟨(World.cell?_of_block hblk).trans (h j hj).1,(World.frozen?_of_block hblk).trans (h j hj).2⟩
structure Wv where
 topic:ByteArray
 payload:ByteArray
 qos:Int
 retain:Bool
 props:Sl
def Wv.cells (u:Wv):List Value:=[.string u.topic,.string u.payload,.int .i64 u.qos,.bool u.retain,u.props.val]
def wcs (ws:List Wv):List Value:=ws.flatMap Wv.cells
def Rw (w:World) (t:Sl) (s:Nat) (vs:List Value):Prop:=vs.length=t.n * s/\(t.n<=t.cap/\t.cap<=maxLen)/\(t.n=0\/∃ b off,t.ao=some ⟨b,off,none⟩/\∀ j,j < vs.length->w.cell? ⟨b,off+j,none⟩=vs[j]?)
theorem Rw.below {w w':World} {t:Sl} {s:Nat} {vs:List Value} (h:Rw w t s vs) (hb:Below w.heap.size w w'):Rw w' t s vs:=by
 obtain⟨h1,h2,h3⟩:=h
 refine⟨h1,h2,?_⟩
 rcases h3 with h3 | ⟨b,off,e,hc⟩
 ·exact .inl h3
 ·refine .inr ⟨b,off,e,fun j hj=>?_⟩
  have:=hc j hj
  rw[List.getElem?_eq_getElem hj]at this
  rw[hb.cell (p:=⟨b,off+j,none⟩) (cell_lt this),List.getElem?_eq_getElem hj]
  exact this
theorem wcs_length (ws:List Wv):(wcs ws).length=ws.length * 5:=by
 induction ws with
 | nil=>rfl
 | cons u us ih=>unfold wcs at *;simp only[List.flatMap_cons,List.length_append,ih,List.length_cons,Wv.cells,List.length_nil];omega
theorem wcs_get (ws:List Wv):∀ (i:Nat) (u:Wv),ws[i]?=some u->∀ j,j < 5->(wcs ws)[i * 5+j]?=u.cells[j]?:=by
 induction ws with
 | nil=>intro i u h;simp at h
 | cons v us ih =>
  intro i u h j hj
  cases i with
  | zero =>
   simp at h
   subst h
   unfold wcs
   rw[List.flatMap_cons,Nat.zero_mul,Nat.zero_add,List.getElem?_append_left (by simp[Wv.cells];omega)]
  | succ i =>
   simp at h
   have:=ih i u h j hj
   unfold wcs at *
   rw[List.flatMap_cons,List.getElem?_append_right (by simp[Wv.cells];omega),<- this]
   congr 1
   simp[Wv.cells]
   omega
theorem Rw.will {w:World} {t:Sl} {ws:List Wv} (h:Rw w t 5 (wcs ws)) (i:Nat) (u:Wv) (hu:ws[i]?=some u):∃ b off,t.ao=some ⟨b,off,none⟩/\w.cell? ⟨b,off+i * 5,none⟩=some (.string u.topic)/\w.cell? ⟨b,off+i * 5+1,none⟩=some (.string u.payload)/\w.cell? ⟨b,off+i * 5+2,none⟩=some (.int .i64 u.qos)/\w.cell? ⟨b,off+i * 5+3,none⟩=some (.bool u.retain)/\w.cell? ⟨b,off+i * 5+4,none⟩=some u.props.val:=by
 obtain⟨h1,h2,h3⟩:=h
 have hi:i < ws.length:=(List.getElem?_eq_some_iff.1 hu).1
 rw[wcs_length]at h1
 rcases h3 with h3 | ⟨b,off,e,hc⟩
 ·omega
 ·refine⟨b,off,e,?_⟩
  have k:∀ j,j < 5->w.cell? ⟨b,off+(i * 5+j),none⟩=u.cells[j]?:=fun j hj=>(hc (i * 5+j) (by rw[wcs_length];omega)).trans (wcs_get ws i u hu j hj)
  exact⟨k 0 (by omega),(by have:=k 1 (by omega);rw[<- Nat.add_assoc]at this;exact this),(by have:=k 2 (by omega);rw[<- Nat.add_assoc]at this;exact this),(by have:=k 3 (by omega);rw[<- Nat.add_assoc]at this;exact this),(by have:=k 4 (by omega);rw[<- Nat.add_assoc]at this;exact this)⟩
def cstep (f:Int) (u:Wv):Int:=bits .or .i64 f (bits .or .i64 (bits .or .i64 4 (fv u.retain 32)) (IntKind.i64.wrap (u.qos * 8)))
def cfl0 (nu np:Nat) (clean:Bool):Int:=bits .or .i64 (bits .or .i64 (fv (decide (0 < nu)) 128) (fv (decide (0 < np)) 64)) (fv clean 2)
def cfl (nu np:Nat) (clean:Bool) (ws:List Wv):Int:=ws.foldl cstep (cfl0 nu np clean)
def cok0 (nw nu np:Nat):Bool:=decide (nw<=1) && decide (nu<=1) && decide (np<=1)
def cok (nu np:Nat) (ws:List Wv):Bool:=cok0 ws.length nu np && ws.all fun u=>mq u.qos
theorem and128 (x:Int) (h0:0<=x) (h1:x<=255):(bits .and .i64 x 128 != 0)=btest x 128:=byte_cases (P:=fun x=>(bits .and .i64 x 128 != 0)=btest x 128) (by decide +kernel) x h0 h1
def cws (x:Int):List Wv:=if btest x 4 then [⟨⟨#[]⟩,⟨#[]⟩,x / 8 % 4,btest x 32,⟨none,0,0⟩⟩] else []
def cfok (x:Int):Bool:=cok (btest x 128).toNat (btest x 64).toNat (cws x) && (cfl (btest x 128).toNat (btest x 64).toNat (btest x 2) (cws x) == x)
def flags?:List Int->Option (Int×List Int):=bindR one? fun x=>bindR (mustR (cfok x)) fun _=>pureR x
theorem al {w:World} (ob:Obj):Below w.heap.size w (w.alloc ob):=bal _ _
def Rm (B R:Nat) (w:World) (b:Bool) (V:Nat) (ob:Obj):Prop:=B<=V/\V≠R/\(b=true->V < w.heap.size/\w.heap[V]?=some ob)
theorem Rm.bx {B R:Nat} {may:Nat->Prop} {w w':World} {b:Bool} {V:Nat} {ob:Obj} (h:Rm B R w b V ob) (hx:BX R may w w'):Rm B R w' b V ob :=
 ⟨h.1,h.2.1,fun hb=>⟨Nat.lt_of_lt_of_le (h.2.2 hb).1 hx.size,(hx.block V (h.2.2 hb).1 h.2.1).trans (h.2.2 hb).2⟩⟩
theorem Rm.below {B R:Nat} {w w':World} {b:Bool} {V:Nat} {ob:Obj} (h:Rm B R w b V ob) (hx:Below w.heap.size w w'):Rm B R w' b V ob :=
 ⟨h.1,h.2.1,fun hb=>⟨Nat.lt_of_lt_of_le (h.2.2 hb).1 hx.size,(hx.block V (h.2.2 hb).1).trans (h.2.2 hb).2⟩⟩
abbrev willO (x:Int):Obj:=.cells #[.string ⟨#[]⟩,.string ⟨#[]⟩,.int .i64 (x / 8 % 4),.bool (btest x 32),.slice none 0 0] 90
abbrev strO:Obj:=.cells #[.string ⟨#[]⟩] 9
structure Rooms (B R:Nat) (w:World) (x:Int) (V U Q:Nat):Prop where
 v:Rm B R w (btest x 4) V (willO x)
 u:Rm B R w (btest x 128) U strO
 q:Rm B R w (btest x 64) Q strO
 vu:btest x 4=true->btest x 128=true->V≠U
 vq:btest x 4=true->btest x 64=true->V≠Q
 uq:btest x 128=true->btest x 64=true->U≠Q
theorem Rw.nil (w:World):Rw w ⟨none,0,0⟩ 5 (wcs []):=⟨rfl,⟨Nat.le_refl _,Nat.zero_le _⟩,.inl rfl⟩
def will? (x:Int):List Int->Option (Option (List Pr×ByteArray×ByteArray)×List Int):=if btest x 4 then bindR (props? 16) fun q=>bindR text? fun t=>bindR bin? fun y=>pureR (some (q,t,y)) else pureR none
def user? (x:Int):List Int->Option (Option ByteArray×List Int):=if btest x 128 then bindR text? fun t=>pureR (some t) else pureR none
def pass? (x:Int):List Int->Option (Option ByteArray×List Int):=if btest x 64 then bindR bin? fun t=>pureR (some t) else pureR none
structure Cn where
 x:Int
 keep:Int
 props:List Pr
 client:ByteArray
 will:Option (List Pr×ByteArray×ByteArray)
 user:Option ByteArray
 pass:Option ByteArray
def isMQTT (m:ByteArray):Bool:=m.toList == [77,81,84,84]
def connect?:List Int->Option (Cn×List Int) :=
 bindR text? fun m=>bindR (mustR (isMQTT m)) fun _=>bindR one? fun v=>bindR (mustR (v == 5)) fun _=>bindR flags? fun x=>bindR two? fun k=>bindR (props? 1) fun pr=>bindR text? fun c =>
  bindR (will? x) fun wl=>bindR (user? x) fun us=>bindR (pass? x) fun pa=>pureR ⟨x,k,pr,c,wl,us,pa⟩
def WillAt (B N R:Nat) (w:World) (x:Int) (V:Nat) (wl:Option (List Pr×ByteArray×ByteArray)):Prop :=
 (btest x 4=false->wl=none)/\(btest x 4=true->∃ q t y tq,wl=some (q,t,y)/\B<=V/\V≠R/\V < w.heap.size/\w.heap[V]?=some (.cells #[.string t,.string y,.int .i64 (x / 8 % 4),.bool (btest x 32),Sl.val tq] 90)/\w.ownsRow N 88 4 tq.val q.length (pcs q))
def StrAt (B R:Nat) (w:World) (b:Bool) (U:Nat) (us:Option ByteArray):Prop :=
 (b=false->us=none)/\(b=true->∃ t,us=some t/\B<=U/\U≠R/\U < w.heap.size/\w.heap[U]?=some (.cells #[.string t] 9))
theorem StrAt.bx {B R:Nat} {may:Nat->Prop} {w w':World} {b:Bool} {U:Nat} {us:Option ByteArray} (h:StrAt B R w b U us) (hx:BX R may w w'):StrAt B R w' b U us :=
 ⟨h.1,fun hb=>by
  obtain⟨t,h1,h2,h3,h4,h5⟩:=h.2 hb
  exact⟨t,h1,h2,h3,Nat.lt_of_lt_of_le h4 hx.size,(hx.block U h4 h3).trans h5⟩⟩
theorem owns_out {w:World} {V j:Nat} {u:Value} {B:Nat} {e:TypeId} {s:Nat} {v:Value} {n:Nat} {xs:List Value} (h:w.ownsRow B e s v n xs) (hV:V < B):(w.setCell ⟨V,j,none⟩ u).ownsRow B e s v n xs:=by
 refine⟨h.1,?_⟩
 rcases h.2 with h1 | ⟨g,cap,cur,hv,hB,hg,rest⟩
 ·exact .inl h1
 ·exact .inr ⟨g,cap,cur,hv,hB,by rw[Below.heap_setCell _ _ _ _ (by show g≠V;omega)];exact hg,rest⟩
theorem WillAt.bx {B N R:Nat} {may:Nat->Prop} {w w':World} {x:Int} {V:Nat} {wl:Option (List Pr×ByteArray×ByteArray)} (h:WillAt B N R w x V wl) (hx:BX R may w w') (hR:R < N):WillAt B N R w' x V wl :=
 ⟨h.1,fun hb=>by
  obtain⟨q,t,y,tq,h1,h2,h3,h4,h5,h6⟩:=h.2 hb
  exact⟨q,t,y,tq,h1,h2,h3,Nat.lt_of_lt_of_le h4 hx.size,(hx.block V h4 h3).trans h5,owns_bx h6 hx hR⟩⟩
theorem WillAt.out {B N R:Nat} {w:World} {x:Int} {V U j:Nat} {u:Value} {wl:Option (List Pr×ByteArray×ByteArray)} (h:WillAt B N R w x V wl) (hU:btest x 4=true->V≠U) (hN:U < N):WillAt B N R (w.setCell ⟨U,j,none⟩ u) x V wl :=
 ⟨h.1,fun hb=>by
  obtain⟨q,t,y,tq,h1,h2,h3,h4,h5,h6⟩:=h.2 hb
  exact⟨q,t,y,tq,h1,h2,h3,by simpa [World.setCell] using h4,(Below.heap_setCell _ _ _ _ (hU hb)).trans h5,owns_out h6 hN⟩⟩
theorem StrAt.out {B R:Nat} {w:World} {b:Bool} {U V j:Nat} {u:Value} {us:Option ByteArray} (h:StrAt B R w b U us) (hV:b=true->U≠V):StrAt B R (w.setCell ⟨V,j,none⟩ u) b U us :=
 ⟨h.1,fun hb=>by
  obtain⟨t,h1,h2,h3,h4,h5⟩:=h.2 hb
  exact⟨t,h1,h2,h3,by simpa [World.setCell] using h4,(Below.heap_setCell _ _ _ _ (hV hb)).trans h5⟩⟩
theorem Rm.out {B R:Nat} {w:World} {b:Bool} {U V j:Nat} {u:Value} {ob:Obj} (h:Rm B R w b U ob) (hV:b=true->U≠V):Rm B R (w.setCell ⟨V,j,none⟩ u) b U ob :=
 ⟨h.1,h.2.1,fun hb=>⟨by simpa [World.setCell] using (h.2.2 hb).1,(Below.heap_setCell _ _ _ _ (hV hb)).trans (h.2.2 hb).2⟩⟩
theorem WillAt.base {B B' N R:Nat} {w:World} {x:Int} {V:Nat} {wl:Option (List Pr×ByteArray×ByteArray)} (h:WillAt B N R w x V wl) (hB:B'<=B):WillAt B' N R w x V wl :=
 ⟨h.1,fun hb=>by
  obtain⟨q,t,y,tq,h1,h2,h3⟩:=h.2 hb
  exact⟨q,t,y,tq,h1,Nat.le_trans hB h2,h3⟩⟩
theorem StrAt.base {B B' R:Nat} {w:World} {b:Bool} {U:Nat} {us:Option ByteArray} (h:StrAt B R w b U us) (hB:B'<=B):StrAt B' R w b U us :=
 ⟨h.1,fun hb=>by
  obtain⟨t,h1,h2,h3⟩:=h.2 hb
  exact⟨t,h1,Nat.le_trans hB h2,h3⟩⟩
def Sb.cells (s:Sb):List Value:=[.string s.filter,.int .i64 s.qos,.bool s.nolocal,.bool s.aspub,.int .i64 s.handling]
def scs (d:List Sb):List Value:=d.flatMap Sb.cells
structure Wl where
 topic:ByteArray
 payload:ByteArray
 qos:Int
 retain:Bool
 props:List Pr
structure Pa where
 kind:Int
 dup:Bool
 qos:Int
 retain:Bool
 topic:ByteArray
 id:Int
 payload:ByteArray
 props:List Pr
 client:ByteArray
 clean:Bool
 keep:Int
 wills:List Wl
 user:List ByteArray
 pass:List ByteArray
 code:Int
 session:Bool
 subs:List Sb
 filters:List ByteArray
 codes:List Int
def pa0 (kind:Int) (dup:Bool) (qos:Int) (retain:Bool):Pa:=⟨kind,dup,qos,retain,⟨#[]⟩,0,⟨#[]⟩,[],⟨#[]⟩,false,0,[],[],[],0,false,[],[],[]⟩
abbrev sl0:Sl:=⟨none,0,0⟩
def pk0 (kind:Int) (dup:Bool) (qos:Int) (retain:Bool):Pkv:=⟨kind,dup,qos,retain,⟨#[]⟩,0,⟨#[]⟩,sl0,⟨#[]⟩,false,0,sl0,sl0,sl0,0,false,sl0,sl0,sl0⟩
def Ws (w:World) (B:Nat) (ws:List Wv) (us:List Wl):Prop:=ws.length=us.length/\∀ (i:Nat) (a:Wv) (b:Wl),ws[i]?=some a->us[i]?=some b->a.topic=b.topic/\a.payload=b.payload/\a.qos=b.qos/\a.retain=b.retain/\w.ownsRow B 88 4 a.props.val b.props.length (pcs b.props)
structure Mean (w:World) (B:Nat) (p:Pkv) (P:Pa):Prop where
 sc:p.kind=P.kind/\p.dup=P.dup/\p.qos=P.qos/\p.retain=P.retain/\p.topic=P.topic/\p.id=P.id/\p.payload=P.payload/\p.client=P.client/\p.clean=P.clean/\p.keep=P.keep/\p.code=P.code/\p.session=P.session
 props:w.ownsRow B 88 4 p.props.val P.props.length (pcs P.props)
 wills:∃ ws,w.ownsRow B 90 5 p.wills.val P.wills.length (wcs ws)/\Ws w B ws P.wills
 user:w.ownsRow B 9 1 p.user.val P.user.length (P.user.map Value.string)
 pass:w.ownsRow B 9 1 p.pass.val P.pass.length (P.pass.map Value.string)
 subs:w.ownsRow B 93 5 p.subs.val P.subs.length (scs P.subs)
 filters:w.ownsRow B 9 1 p.filters.val P.filters.length (P.filters.map Value.string)
 codes:w.ownsRow B 3 1 p.codes.val P.codes.length (P.codes.map (Value.int .i64))
theorem row0 (w:World) (B:Nat) (e:TypeId) (s:Nat):w.ownsRow B e s sl0.val 0 []:=World.ownsRow_nil _ _ _ _
theorem wills0 (w:World) (B:Nat):∃ ws,w.ownsRow B 90 5 sl0.val 0 (wcs ws)/\Ws w B ws []:=⟨[],World.ownsRow_nil _ _ _ _,rfl,fun i a b h=>by simp at h⟩
def wlOf (x:Int) (wl:Option (List Pr×ByteArray×ByteArray)):List Wl:=match wl with
 | none=>[]
 | some (q,t,y)=>[⟨t,y,x / 8 % 4,btest x 32,q⟩]
def endR (l:List Int):Option (Unit×List Int):=if l.length=0 then some ((),l) else none
def ofCn (P:Pa) (n:Cn):Pa:={ P with clean:=btest n.x 2,keep:=n.keep,props:=n.props,client:=n.client,wills:=wlOf n.x n.will,user:=n.user.toList,pass:=n.pass.toList }
def body? (P:Pa):List Int->Option (Pa×List Int) :=
 if P.kind=1 then bindR connect? fun n=>pureR (ofCn P n)
 else if P.kind=2 then bindR one? fun f=>bindR (mustR (decide (f<=1))) fun _=>bindR one? fun c=>bindR (props? 2) fun x=>pureR { P with session:=f == 1,code:=c,props:=x }
 else if P.kind=3 then bindR (publish? P.qos) fun r=>pureR { P with topic:=r.1,id:=r.2.1,props:=r.2.2.1,payload:=r.2.2.2 }
 else if P.kind=8 then bindR id? fun i=>bindR (props? P.kind) fun x=>bindR (list? sub?) fun d=>pureR { P with id:=i,props:=x,subs:=d }
 else if P.kind=10 then bindR id? fun i=>bindR (props? P.kind) fun x=>bindR (list? text?) fun d=>pureR { P with id:=i,props:=x,filters:=d }
 else if P.kind=9\/P.kind=11 then bindR id? fun i=>bindR (props? P.kind) fun x=>bindR (list? one?) fun d=>pureR { P with id:=i,props:=x,codes:=d }
 else if P.kind=4\/P.kind=5\/P.kind=6\/P.kind=7 then bindR id? fun i=>bindR (reason? P.kind) fun r=>pureR { P with id:=i,code:=r.1,props:=r.2 }
 else if P.kind=14\/P.kind=15 then bindR (reason? P.kind) fun r=>pureR { P with code:=r.1,props:=r.2 }
 else pureR P
def packet? (P:Pa):List Int->Option (Pa×List Int):=bindR (body? P) fun P'=>bindR endR fun _=>pureR P'
theorem stp_end {st:Option (List Int)} {n:Nat} (h:∀ l,st=some l->l.length=n) (b:Bool) (hb:b=decide (n=0)):Stp endR st () (if b then st else none):=by
 cases st with
 | none=>cases b <;> rfl
 | some l =>
  have:=h l rfl
  subst hb
  unfold Stp endR
  by_cases hn:n=0
  ·simp[hn,this]
  ·simp[hn,this]
abbrev wl0:Wl:=⟨⟨#[]⟩,⟨#[]⟩,0,false,[]⟩
def WlIs (w:World) (b off:Nat) (u:Wl):Prop:=∃ ao n cap,(w.cell? ⟨b,off,none⟩=some (.string u.topic)/\w.cell? ⟨b,off+1,none⟩=some (.string u.payload)/\w.cell? ⟨b,off+2,none⟩=some (.int .i64 u.qos)/\w.cell? ⟨b,off+3,none⟩=some (.bool u.retain)/\w.cell? ⟨b,off+4,none⟩=some (.slice ao n cap))/\Prp w (.slice ao n cap) u.props/\u.props.length<=1000000000
def WlAt (w:World) (b off:Nat) (us:List Wl):Prop:=∀ k,k < us.length->WlIs w b (off+k * 5) (us.getD k wl0)
theorem WlIs.below {w w':World} {b off:Nat} {u:Wl} (h:WlIs w b off u) (hb:Below w.heap.size w w'):WlIs w' b off u:=by
 obtain⟨ao,n,cap,⟨h0,h1,h2,h3,h4⟩,h5,h6⟩:=h
 have hl:b < w.heap.size:=cell_lt h0
 exact⟨ao,n,cap,⟨(hb.cell hl).trans h0,(hb.cell hl).trans h1,(hb.cell hl).trans h2,(hb.cell hl).trans h3,(hb.cell hl).trans h4⟩,h5.below hb,h6⟩
theorem wl_eq (u v:Wl):u=v ↔ (u.topic=v.topic/\u.payload=v.payload/\u.qos=v.qos/\u.retain=v.retain/\u.props=v.props):=by
 obtain⟨a,b,c,d,e⟩:=u
 obtain⟨a',b',c',d',e'⟩:=v
 simp
theorem eqws_core (ba oa bb ob ca cb:Nat) (l m:List Wl) (len:Nat) (w:World) (hl:l.length=len) (hm:m.length=len) (hmx:len<=1000000000) (ha:WlAt w ba oa l) (hb:WlAt w bb ob m) :
  Calls Tryz.prog 48 #[.slice (some ⟨ba,oa,none⟩) len ca,.slice (some ⟨bb,ob,none⟩) len cb] w fun e w'=>(∃ b,e=.returned (.bool b)/\(b=true ↔ ∀ j,j < len->l.getD j wl0=m.getD j wl0))/\Below w.heap.size w w':=by
 have HL:=zh hl
 have HM:=zh hm
 have HA:=zh ha
 have HB:=zh hb
 clear hl hm ha hb
 go_enter Tryz.func48,Tryz.ntmps48
 go_wp2
 go_loopw [5] (fun i wr=>∃ k:Nat,k<=len/\i=.int .i64 k/\Hid (∀ j,j < k->l.getD j wl0=m.getD j wl0)/\Hid (Below w.heap.size w wr)) (fun i _=>len - (intOf i).toNat)
 case atStart=>exact⟨0,Nat.zero_le _,rfl,fun j hj=>absurd hj (Nat.not_lt_zero j),Below.refl _ _⟩
 case round =>
  obtain⟨k,hk,rfl,HALL,HBEL⟩:=hrel
  by_cases hlt:k < len
  ·have hx:=((uh HA) k (by rw[uh HL];exact hlt)).below (uh HBEL)
   have hy:=((uh HB) k (by rw[uh HM];exact hlt)).below (uh HBEL)
   have hwl:=wl_eq (l.getD k wl0) (m.getD k wl0)
   generalize hu:l.getD k wl0=u at hx hwl
   generalize hv:m.getD k wl0=v at hy hwl
   have HU:=zh hu
   have HV:=zh hv
   have HWL:=zh hwl
   clear hu hv hwl
   obtain⟨ao,n,cap,hc,hp,hq⟩:=hx
   obtain⟨ao',n',cap',hc',hp',hq'⟩:=hy
   have HP:=zh hp
   have HP':=zh hp'
   have HC:=zh hc
   have HC':=zh hc'
   have hlb:ba < wr.heap.size:=cell_lt hc.1
   have hlb':bb < wr.heap.size:=cell_lt hc'.1
   obtain⟨x1,x2,x3,x4,x5⟩:=hc
   obtain⟨y1,y2,y3,y4,y5⟩:=hc'
   clear hp hp'
   have HK:Hid (∀ W:World,Below wr.heap.size wr W->(fun w'=>(w'.cell? ⟨ba,oa+k * 5,none⟩=some (.string u.topic)/\w'.cell? ⟨ba,oa+k * 5+1,none⟩=some (.string u.payload)/\w'.cell? ⟨ba,oa+k * 5+2,none⟩=some (.int .i64 u.qos)/\w'.cell? ⟨ba,oa+k * 5+3,none⟩=some (.bool u.retain)/\w'.cell? ⟨ba,oa+k * 5+4,none⟩=some (.slice ao n cap))/\(w'.cell? ⟨bb,ob+k * 5,none⟩=some (.string v.topic)/\w'.cell? ⟨bb,ob+k * 5+1,none⟩=some (.string v.payload)/\w'.cell? ⟨bb,ob+k * 5+2,none⟩=some (.int .i64 v.qos)/\w'.cell? ⟨bb,ob+k * 5+3,none⟩=some (.bool v.retain)/\w'.cell? ⟨bb,ob+k * 5+4,none⟩=some (.slice ao' n' cap'))) W):=by
    intro W hW
    obtain⟨x1,x2,x3,x4,x5⟩:=uh HC
    obtain⟨y1,y2,y3,y4,y5⟩:=uh HC'
    exact⟨⟨(hW.cell hlb).trans x1,(hW.cell hlb).trans x2,(hW.cell hlb).trans x3,(hW.cell hlb).trans x4,(hW.cell hlb).trans x5⟩,(hW.cell hlb').trans y1,(hW.cell hlb').trans y2,(hW.cell hlb').trans y3,(hW.cell hlb').trans y4,(hW.cell hlb').trans y5⟩
   go_wp2_with fail
   go_region_held3 (fun w'=>(w'.cell? ⟨ba,oa+k * 5,none⟩=some (.string u.topic)/\w'.cell? ⟨ba,oa+k * 5+1,none⟩=some (.string u.payload)/\w'.cell? ⟨ba,oa+k * 5+2,none⟩=some (.int .i64 u.qos)/\w'.cell? ⟨ba,oa+k * 5+3,none⟩=some (.bool u.retain)/\w'.cell? ⟨ba,oa+k * 5+4,none⟩=some (.slice ao n cap))/\(w'.cell? ⟨bb,ob+k * 5,none⟩=some (.string v.topic)/\w'.cell? ⟨bb,ob+k * 5+1,none⟩=some (.string v.payload)/\w'.cell? ⟨bb,ob+k * 5+2,none⟩=some (.int .i64 v.qos)/\w'.cell? ⟨bb,ob+k * 5+3,none⟩=some (.bool v.retain)/\w'.cell? ⟨bb,ob+k * 5+4,none⟩=some (.slice ao' n' cap')))
    (first | exact (uh HK) _ (below_drewN (Below.refl _ _) 1) | exact (uh HK) _ (uh HB2) | exact (uh HK) _ (Below.refl _ _))
    (first | (go_at_call 97;refine (eqw_any u.topic v.topic u.payload v.payload u.qos v.qos u.retain v.retain ao ao' n n' cap cap' u.props v.props _ ((uh HP).below (below_drewN (Below.refl _ _) 1)) ((uh HP').below (below_drewN (Below.refl _ _) 1)) hq).mono ?_;rintro e w2 ⟨⟨bo,rfl,hbo⟩,hb2⟩;have HBO:=zh hbo;have HB2:Hid (Below wr.heap.size wr w2):=(below_drewN (Below.refl _ _) 1).trans hb2;clear hbo hb2) | fail)
   have HB3:Hid (Below w.heap.size w w2):=(uh HBEL).trans ((uh HB2).mono (uh HBEL).size)
   clear HK HC HC' x1 x2 x3 x4 x5 y1 y2 y3 y4 y5 HB2
   have HUV:Hid ((bo=true) ↔ u=v):=(uh HBO).trans (uh HWL).symm
   clear HBO HWL
   cases bo
   ·have HNE:Hid (l.getD k wl0≠m.getD k wl0):=fun e=>by
     rw[uh HU,uh HV]at e
     have:=(uh HUV).2 e
     cases this
    go_wp2
    go_ret
    refine⟨⟨_,rfl,?_⟩,uh HB3⟩
    constructor
    ·intro h;cases h
    ·intro h;exact absurd (h k hlt) (uh HNE)
   ·have HE:Hid (l.getD k wl0=m.getD k wl0):=by
     show _=_
     rw[uh HU,uh HV]
     exact (uh HUV).1 rfl
    go_wp2
    go_roundw
    case rel=>exact⟨k+1,by omega,by go_num,fun j hj=>by
     rcases Nat.lt_succ_iff_lt_or_eq.1 hj with h | h
     ·exact (uh HALL) j h
     ·rw[h];exact uh HE,HB3⟩
    case measure=>simp[intOf];omega
  ·go_wp2
   go_ret
   exact⟨⟨_,rfl,fun _ j hj=>(uh HALL) j (by omega),fun _=>rfl⟩,uh HBEL⟩
theorem eqws_len (ao bo:Option Addr) (n m ca cb:Nat) (w:World) (h:n≠m) :
  Calls Tryz.prog 48 #[.slice ao n ca,.slice bo m cb] w fun e w'=>e=.returned (.bool false)/\w'=w:=by
 have h1:((n:Int) == (m:Int))=false:=beq_eq_false_iff_ne.2 (by omega)
 go_enter Tryz.func48,Tryz.ntmps48
 go_wp2
 go_ret
 exact⟨rfl,rfl⟩
theorem eqws_nil (ao bo:Option Addr) (ca cb:Nat) (w:World) :
  Calls Tryz.prog 48 #[.slice ao 0 ca,.slice bo 0 cb] w fun e w'=>e=.returned (.bool true)/\w'=w:=by
 go_enter Tryz.func48,Tryz.ntmps48
 go_wp2
 refine wp_loop_rounds 1 ?_
 rw[rounds_succ]
 go_wp2
 go_ret
 exact⟨rfl,rfl⟩
def Wls (w:World) (v:Value) (l:List Wl):Prop:=∃ ao cap,v=.slice ao l.length cap/\(l.length<=cap/\cap<=maxLen)/\(l=[]\/∃ b off,ao=some ⟨b,off,none⟩/\WlAt w b off l)
theorem wl_ext {l m:List Wl} (hl:l.length=m.length) (h:∀ j,j < l.length->l.getD j wl0=m.getD j wl0):l=m:=by
 apply List.ext_getElem hl
 intro i h1 h2
 have:=h i h1
 rw[List.getD_eq_getElem?_getD,List.getD_eq_getElem?_getD,List.getElem?_eq_getElem h1,List.getElem?_eq_getElem h2]at this
 exact this
theorem eqws_any (va vb:Value) (l m:List Wl) (w:World) (ha:Wls w va l) (hb:Wls w vb m) (hmx:l.length<=1000000000) :
  Calls Tryz.prog 48 #[va,vb] w fun e w'=>(∃ b,e=.returned (.bool b)/\(b=true ↔ l=m))/\Below w.heap.size w w':=by
 obtain⟨ao,ca,rfl,_,ha⟩:=ha
 obtain⟨bo,cb,rfl,_,hb⟩:=hb
 by_cases hl:l.length=m.length
 ·rcases ha with rfl | ⟨ba,oa,rfl,hca⟩
  ·obtain rfl:m=[]:=List.length_eq_zero_iff.1 hl.symm
   refine (eqws_nil _ _ _ _ _).mono ?_
   rintro e w' ⟨rfl,rfl⟩
   exact⟨⟨true,rfl,by simp⟩,Below.refl _ _⟩
  ·rcases hb with rfl | ⟨bb,ob,rfl,hcb⟩
   ·obtain rfl:l=[]:=List.length_eq_zero_iff.1 hl
    refine (eqws_nil _ _ _ _ _).mono ?_
    rintro e w' ⟨rfl,rfl⟩
    exact⟨⟨true,rfl,by simp⟩,Below.refl _ _⟩
   ·rw[<- hl]
    refine (eqws_core ba oa bb ob ca cb l m l.length w rfl hl.symm hmx hca hcb).mono ?_
    rintro e w' ⟨⟨b,rfl,hbb⟩,hbel⟩
    exact⟨⟨b,rfl,hbb.trans ⟨fun h=>wl_ext hl h,fun h j _=>by rw[h]⟩⟩,hbel⟩
 ·refine (eqws_len ao bo l.length m.length ca cb w hl).mono ?_
  rintro e w' ⟨rfl,rfl⟩
  exact⟨⟨false,rfl,by constructor;(intro h;cases h);(intro h;exact absurd (by rw[h]) hl)⟩,Below.refl _ _⟩
abbrev sb0:Sb:=⟨⟨#[]⟩,0,false,false,0⟩
def SbAt (w:World) (b off:Nat) (l:List Sb):Prop:=∀ k,k < l.length->w.cell? ⟨b,off+k * 5,none⟩=some (.string (l.getD k sb0).filter)/\w.cell? ⟨b,off+k * 5+1,none⟩=some (.int .i64 (l.getD k sb0).qos)/\w.cell? ⟨b,off+k * 5+2,none⟩=some (.bool (l.getD k sb0).nolocal)/\w.cell? ⟨b,off+k * 5+3,none⟩=some (.bool (l.getD k sb0).aspub)/\w.cell? ⟨b,off+k * 5+4,none⟩=some (.int .i64 (l.getD k sb0).handling)
def Sbs (w:World) (v:Value) (l:List Sb):Prop:=∃ ao cap,v=.slice ao l.length cap/\(l.length<=cap/\cap<=maxLen)/\(l=[]\/∃ b off,ao=some ⟨b,off,none⟩/\SbAt w b off l)
theorem Tryz.eqgB:Tryz.prog.eqGuardType Tryz.prog.depth 93=false:=by kernel_rfl
theorem Tryz.stoodB:Tryz.prog.stoodInHeld 93=false:=by kernel_rfl
theorem Tryz.undB:Tryz.prog.underlying 93=some (.struct (Tryz.prog.fieldsOf 93)):=by kernel_rfl
def sameB (p q:Sb):Bool:=(p.filter.toList == q.filter.toList && p.qos == q.qos && p.nolocal == q.nolocal && p.aspub == q.aspub && p.handling == q.handling)
theorem neqB (f f':ByteArray) (q q' h h':Int) (n n' a a':Bool) (w:World):(binOp .neq 93 (.agg #[.string f,.int .i64 q,.bool n,.bool a,.int .i64 h]) (.agg #[.string f',.int .i64 q',.bool n',.bool a',.int .i64 h'])).run Tryz.prog w=.ok (.bool (!(sameB ⟨f,q,n,a,h⟩ ⟨f',q',n',a',h'⟩))) w:=by
 rw[run_neq_struct,run_equalIn_struct w 9999 93 _ _ Tryz.undB Tryz.stoodB]
 rw[show Tryz.prog.fieldsOf 93=_ from rfl]
 simp[Program.fieldsOf,Tryz.underlying93,Op.eqFields,go_sem]
 unfold sameB
 by_cases h1:f.toList=f'.toList
 ·by_cases h2:q=q'
  ·by_cases h3:n=n'
   ·by_cases h4:a=a'
    ·by_cases h5:h=h'
     ·simp[h1,h2,h3,h4,h5]
     ·simp[h1,h2,h3,h4,h5]
    ·simp[h1,h2,h3,h4]
   ·simp[h1,h2,h3]
  ·simp[h1,h2]
 ·simp[h1]
theorem sameB_iff (p q:Sb):sameB p q=true ↔ p=q:=by
 obtain⟨a,b,c,d,e⟩:=p
 obtain⟨a',b',c',d',e'⟩:=q
 unfold sameB
 constructor
 ·intro h
  simp only[Bool.and_eq_true,beq_iff_eq]at h
  obtain⟨⟨⟨⟨h1,h2⟩,h3⟩,h4⟩,h5⟩:=h
  rw[text_ext h1,h2,h3,h4,h5]
 ·rintro h
  cases h
  simp
theorem eqb_core (ba oa bb ob ca cb:Nat) (l m:List Sb) (len:Nat) (w:World) (hl:l.length=len) (hm:m.length=len) (hmx:len<=1000000000) (ha:SbAt w ba oa l) (hb:SbAt w bb ob m) :
  Calls Tryz.prog 50 #[.slice (some ⟨ba,oa,none⟩) len ca,.slice (some ⟨bb,ob,none⟩) len cb] w fun e w'=>(∃ b,e=.returned (.bool b)/\(b=true ↔ ∀ j,j < len->l.getD j sb0=m.getD j sb0))/\∃ k,w'=w.drewN k:=by
 have HL:=zh hl
 have HM:=zh hm
 have HA:=zh ha
 have HB:=zh hb
 clear hl hm ha hb
 go_enter Tryz.func50,Tryz.ntmps50
 go_wp2
 go_loopw [5] (fun i wr=>∃ k q:Nat,k<=len/\i=.int .i64 k/\wr=w.drewN q/\Hid (∀ j,j < k->l.getD j sb0=m.getD j sb0)) (fun i _=>len - (intOf i).toNat)
 case atStart=>exact⟨0,0,Nat.zero_le _,rfl,rfl,fun j hj=>absurd hj (Nat.not_lt_zero j)⟩
 case round =>
  obtain⟨k,q,hk,rfl,rfl,HALL⟩:=hrel
  by_cases hlt:k < len
  ·obtain⟨h0,h1,h2,h3,h4⟩:=(uh HA) k (by rw[uh HL];exact hlt)
   obtain⟨g0,g1,g2,g3,g4⟩:=(uh HB) k (by rw[uh HM];exact hlt)
   obtain⟨x1,x2,x3,x4,x5,hp⟩:∃ a b c d e,l.getD k sb0=⟨a,b,c,d,e⟩:=⟨_,_,_,_,_,rfl⟩
   obtain⟨y1,y2,y3,y4,y5,hp'⟩:∃ a b c d e,m.getD k sb0=⟨a,b,c,d,e⟩:=⟨_,_,_,_,_,rfl⟩
   rw[hp]at h0 h1 h2 h3 h4
   rw[hp']at g0 g1 g2 g3 g4
   simp only at h0 h1 h2 h3 h4 g0 g1 g2 g3 g4
   have HP:=zh hp
   have HP':=zh hp'
   clear hp hp'
   have qg:=Tryz.eqgB
   have qn:=fun W=>neqB x1 y1 x2 y2 x5 y5 x3 y3 x4 y4 W
   generalize hsb:sameB ⟨x1,x2,x3,x4,x5⟩ ⟨y1,y2,y3,y4,y5⟩=sb at qn
   have HSB:=zh hsb
   clear hsb
   cases sb
   ·have HNE:Hid (l.getD k sb0≠m.getD k sb0):=fun e=>by
     rw[uh HP,uh HP']at e
     have:=(sameB_iff _ _).2 e
     rw[uh HSB]at this
     cases this
    go_wp2
    go_quiet (fail)
    go_wp2
    go_ret
    refine⟨⟨_,rfl,?_⟩,q+nq,drewN_drewN _ _ _⟩
    constructor
    ·intro h;cases h
    ·intro h;exact absurd (h k hlt) (uh HNE)
   ·have HE:Hid (l.getD k sb0=m.getD k sb0):=by
     show _=_
     rw[uh HP,uh HP']
     exact (sameB_iff _ _).1 (uh HSB)
    go_wp2
    go_quiet (fail)
    go_wp2
    go_roundw
    case rel=>exact⟨k+1,_,by omega,by go_num,rfl,fun j hj=>by
     rcases Nat.lt_succ_iff_lt_or_eq.1 hj with h | h
     ·exact (uh HALL) j h
     ·rw[h];exact uh HE⟩
    case measure=>simp[intOf];omega
  ·go_wp2
   go_ret
   exact⟨⟨_,rfl,fun _ j hj=>(uh HALL) j (by omega),fun _=>rfl⟩,_,rfl⟩
theorem eqb_len (ao bo:Option Addr) (n m ca cb:Nat) (w:World) (h:n≠m) :
  Calls Tryz.prog 50 #[.slice ao n ca,.slice bo m cb] w fun e w'=>e=.returned (.bool false)/\w'=w:=by
 have h1:((n:Int) == (m:Int))=false:=beq_eq_false_iff_ne.2 (by omega)
 go_enter Tryz.func50,Tryz.ntmps50
 go_wp2
 go_ret
 exact⟨rfl,rfl⟩
theorem eqb_nil (ao bo:Option Addr) (ca cb:Nat) (w:World) :
  Calls Tryz.prog 50 #[.slice ao 0 ca,.slice bo 0 cb] w fun e w'=>e=.returned (.bool true)/\w'=w:=by
 go_enter Tryz.func50,Tryz.ntmps50
 go_wp2
 refine wp_loop_rounds 1 ?_
 rw[rounds_succ]
 go_wp2
 go_ret
 exact⟨rfl,rfl⟩
theorem sb_ext {l m:List Sb} (hl:l.length=m.length) (h:∀ j,j < l.length->l.getD j sb0=m.getD j sb0):l=m:=by
 apply List.ext_getElem hl
 intro i h1 h2
 have:=h i h1
 rw[List.getD_eq_getElem?_getD,List.getD_eq_getElem?_getD,List.getElem?_eq_getElem h1,List.getElem?_eq_getElem h2]at this
 exact this
theorem eqb_any (va vb:Value) (l m:List Sb) (w:World) (ha:Sbs w va l) (hb:Sbs w vb m) (hmx:l.length<=1000000000) :
  Calls Tryz.prog 50 #[va,vb] w fun e w'=>(∃ b,e=.returned (.bool b)/\(b=true ↔ l=m))/\∃ k,w'=w.drewN k:=by
 obtain⟨ao,ca,rfl,_,ha⟩:=ha
 obtain⟨bo,cb,rfl,_,hb⟩:=hb
 by_cases hl:l.length=m.length
 ·rcases ha with rfl | ⟨ba,oa,rfl,hca⟩
  ·obtain rfl:m=[]:=List.length_eq_zero_iff.1 hl.symm
   refine (eqb_nil _ _ _ _ _).mono ?_
   rintro e w' ⟨rfl,rfl⟩
   exact⟨⟨true,rfl,by simp⟩,0,rfl⟩
  ·rcases hb with rfl | ⟨bb,ob,rfl,hcb⟩
   ·obtain rfl:l=[]:=List.length_eq_zero_iff.1 hl
    refine (eqb_nil _ _ _ _ _).mono ?_
    rintro e w' ⟨rfl,rfl⟩
    exact⟨⟨true,rfl,by simp⟩,0,rfl⟩
   ·rw[<- hl]
    refine (eqb_core ba oa bb ob ca cb l m l.length w rfl hl.symm hmx hca hcb).mono ?_
    rintro e w' ⟨⟨b,rfl,hbb⟩,k,rfl⟩
    exact⟨⟨b,rfl,hbb.trans ⟨fun h=>sb_ext hl h,fun h j _=>by rw[h]⟩⟩,k,rfl⟩
 ·refine (eqb_len ao bo l.length m.length ca cb w hl).mono ?_
  rintro e w' ⟨rfl,rfl⟩
  exact⟨⟨false,rfl,by constructor;(intro h;cases h);(intro h;exact absurd (by rw[h]) hl)⟩,0,rfl⟩
theorem Nms.below {w w':World} {v:Value} {l:List Int} (h:Nms w v l) (hb:Below w.heap.size w w'):Nms w' v l:=by
 obtain⟨ao,cap,h1,h2,h3⟩:=h
 refine⟨ao,cap,h1,h2,?_⟩
 rcases h3 with h3 | ⟨b,off,e,hc⟩
 ·exact .inl h3
 ·exact .inr ⟨b,off,e,fun j hj=>(hb.cell (p:=⟨b,off+j,none⟩) (cell_lt (hc j hj))).trans (hc j hj)⟩
theorem Txs.below {w w':World} {v:Value} {l:List ByteArray} (h:Txs w v l) (hb:Below w.heap.size w w'):Txs w' v l:=by
 obtain⟨ao,cap,h1,h2,h3⟩:=h
 refine⟨ao,cap,h1,h2,?_⟩
 rcases h3 with h3 | ⟨b,off,e,hc⟩
 ·exact .inl h3
 ·exact .inr ⟨b,off,e,fun j hj=>(hb.cell (p:=⟨b,off+j,none⟩) (cell_lt (hc j hj))).trans (hc j hj)⟩
theorem Sbs.below {w w':World} {v:Value} {l:List Sb} (h:Sbs w v l) (hb:Below w.heap.size w w'):Sbs w' v l:=by
 obtain⟨ao,cap,h1,h2,h3⟩:=h
 refine⟨ao,cap,h1,h2,?_⟩
 rcases h3 with h3 | ⟨b,off,e,hc⟩
 ·exact .inl h3
 ·refine .inr ⟨b,off,e,fun j hj=>?_⟩
  obtain⟨x1,x2,x3,x4,x5⟩:=hc j hj
  have hl:b < w.heap.size:=cell_lt x1
  exact⟨(hb.cell hl).trans x1,(hb.cell hl).trans x2,(hb.cell hl).trans x3,(hb.cell hl).trans x4,(hb.cell hl).trans x5⟩
theorem Wls.below {w w':World} {v:Value} {l:List Wl} (h:Wls w v l) (hb:Below w.heap.size w w'):Wls w' v l:=by
 obtain⟨ao,cap,h1,h2,h3⟩:=h
 refine⟨ao,cap,h1,h2,?_⟩
 rcases h3 with h3 | ⟨b,off,e,hc⟩
 ·exact .inl h3
 ·exact .inr ⟨b,off,e,fun j hj=>(hc j hj).below hb⟩
theorem tells_props {w:World} {va vb:Value} {l m:List Pr} (ha:Prp w va l) (hb:Prp w vb m) (hmx:l.length<=1000000000) (c:Bool) (hc:c=true ↔ l=m):Tells w 47 va vb c:=fun W hW=>by
 refine (eqp_any va vb l m W (ha.below hW) (hb.below hW) hmx).mono ?_
 rintro e w' ⟨⟨b,rfl,hbb⟩,k,rfl⟩
 obtain rfl:b=c:=Bool.eq_iff_iff.2 (hbb.trans hc.symm)
 exact⟨rfl,below_drewN (Below.refl _ _) k⟩
theorem tells_subs {w:World} {va vb:Value} {l m:List Sb} (ha:Sbs w va l) (hb:Sbs w vb m) (hmx:l.length<=1000000000) (c:Bool) (hc:c=true ↔ l=m):Tells w 50 va vb c:=fun W hW=>by
 refine (eqb_any va vb l m W (ha.below hW) (hb.below hW) hmx).mono ?_
 rintro e w' ⟨⟨b,rfl,hbb⟩,k,rfl⟩
 obtain rfl:b=c:=Bool.eq_iff_iff.2 (hbb.trans hc.symm)
 exact⟨rfl,below_drewN (Below.refl _ _) k⟩
theorem tells_wills {w:World} {va vb:Value} {l m:List Wl} (ha:Wls w va l) (hb:Wls w vb m) (hmx:l.length<=1000000000) (c:Bool) (hc:c=true ↔ l=m):Tells w 48 va vb c:=fun W hW=>by
 refine (eqws_any va vb l m W (ha.below hW) (hb.below hW) hmx).mono ?_
 rintro e w' ⟨⟨b,rfl,hbb⟩,hb'⟩
 obtain rfl:b=c:=Bool.eq_iff_iff.2 (hbb.trans hc.symm)
 exact⟨rfl,hb'⟩
theorem tells_strs {w:World} {va vb:Value} {l m:List ByteArray} (ha:Txs w va l) (hb:Txs w vb m) (c:Bool) (hc:c=true ↔ l=m):Tells w 49 va vb c:=fun W hW=>by
 refine (eqs_any va vb l m W (ha.below hW) (hb.below hW)).mono ?_
 rintro e w' ⟨rfl,k,rfl⟩
 exact⟨by rw[show c=decide (l=m) from Bool.eq_iff_iff.2 (hc.trans (decide_eq_true_iff).symm)],below_drewN (Below.refl _ _) k⟩
theorem tells_nums {w:World} {va vb:Value} {l m:List Int} (ha:Nms w va l) (hb:Nms w vb m) (c:Bool) (hc:c=true ↔ l=m):Tells w 51 va vb c:=fun W hW=>by
 refine (eqn_any va vb l m W (ha.below hW) (hb.below hW)).mono ?_
 rintro e w' ⟨rfl,k,rfl⟩
 exact⟨by rw[show c=decide (l=m) from Bool.eq_iff_iff.2 (hc.trans (decide_eq_true_iff).symm)],below_drewN (Below.refl _ _) k⟩
structure RPk (w:World) (p:Pkv) (P:Pa):Prop where
 sc:p.kind=P.kind/\p.dup=P.dup/\p.qos=P.qos/\p.retain=P.retain/\p.topic=P.topic/\p.id=P.id/\p.payload=P.payload/\p.client=P.client/\p.clean=P.clean/\p.keep=P.keep/\p.code=P.code/\p.session=P.session
 props:Prp w p.props.val P.props
 wills:Wls w p.wills.val P.wills
 user:Txs w p.user.val P.user
 pass:Txs w p.pass.val P.pass
 subs:Sbs w p.subs.val P.subs
 filters:Txs w p.filters.val P.filters
 codes:Nms w p.codes.val P.codes
theorem RPk.below {w w':World} {p:Pkv} {P:Pa} (h:RPk w p P) (hb:Below w.heap.size w w'):RPk w' p P :=
 ⟨h.sc,h.props.below hb,h.wills.below hb,h.user.below hb,h.pass.below hb,h.subs.below hb,h.filters.below hb,h.codes.below hb⟩
structure Small (P:Pa):Prop where
 props:P.props.length<=1000000000
 wills:P.wills.length<=1000000000
 subs:P.subs.length<=1000000000
theorem eqpk_same (p q:Pkv) (P:Pa) (w:World) (hp:RPk w p P) (hq:RPk w q P) (hs:Small P) :
  Calls Tryz.prog 24 #[p.val,q.val] w fun e w'=>e=.returned (.bool true)/\Below w.heap.size w w':=by
 obtain⟨x0,x1,x2,x3,x4,x5,x6,x7,x8,x9,x10,x11⟩:=hp.sc
 obtain⟨y0,y1,y2,y3,y4,y5,y6,y7,y8,y9,y10,y11⟩:=hq.sc
 exact eqpk_yes _ _ _ _ _ _ _ _ _ _ _ _ _ _ _ _ _ _ _ _ _ _ _ _ _ _ _ _ _ _ _ _ _ _ _ _ _ _ w
  (by rw[x0,y0];simp) (by rw[x1,y1];simp) (by rw[x2,y2];simp) (by rw[x3,y3];simp) (by rw[x4,y4];simp) (by rw[x5,y5];simp) (by rw[x6,y6];simp)
  (tells_props hp.props hq.props hs.props true (by simp)) (by rw[x7,y7];simp) (by rw[x8,y8];simp) (by rw[x9,y9];simp) (tells_wills hp.wills hq.wills hs.wills true (by simp))
  (tells_strs hp.user hq.user true (by simp)) (tells_strs hp.pass hq.pass true (by simp)) (by rw[x10,y10];simp) (by rw[x11,y11];simp) (tells_subs hp.subs hq.subs hs.subs true (by simp)) (tells_strs hp.filters hq.filters true (by simp)) (tells_nums hp.codes hq.codes true (by simp))
theorem scs_get2 (d:List Sb):∀ (i:Nat) (u:Sb),d[i]?=some u->∀ j,j < 5->(scs d)[i * 5+j]?=u.cells[j]?:=by
 induction d with
 | nil=>intro i u h;simp at h
 | cons v us ih =>
  intro i u h j hj
  cases i with
  | zero =>
   simp at h
   subst h
   unfold scs
   rw[List.flatMap_cons,Nat.zero_mul,Nat.zero_add,List.getElem?_append_left (by simp[Sb.cells];omega)]
  | succ i =>
   simp at h
   have:=ih i u h j hj
   unfold scs at *
   rw[List.flatMap_cons,List.getElem?_append_right (by simp[Sb.cells];omega),<- this]
   congr 1
   simp[Sb.cells]
   omega
theorem row_form2 {w:World} {B:Nat} {e:TypeId} {s:Nat} {v:Value} {n:Nat} {xs:List Value} (h:w.ownsRow B e s v n xs):∃ ao cap,v=.slice ao n cap/\(n<=cap/\cap<=maxLen)/\(n=0\/∃ b,ao=some ⟨b,0,none⟩/\∀ j,j < n * s->w.cell? ⟨b,j,none⟩=xs[j]?):=by
 have hl:=h.1
 rcases h.2 with⟨rfl,rfl⟩ | ⟨g,cap,cur,rfl,hB,hg,h1,h2,h3,h4⟩
 ·exact⟨none,0,rfl,⟨Nat.le_refl _,by simp⟩,.inl rfl⟩
 ·exact⟨_,cap,rfl,⟨h1,h2⟩,.inr ⟨g,rfl,fun j hj=>h.cellAt j hj⟩⟩
theorem sbs_own {w:World} {B:Nat} {e:TypeId} {v:Value} {l:List Sb} (h:w.ownsRow B e 5 v l.length (scs l)):Sbs w v l:=by
 obtain⟨ao,cap,rfl,hc,h0 | ⟨b,rfl,hcell⟩⟩:=row_form2 h
 ·exact⟨ao,cap,rfl,hc,.inl (List.length_eq_zero_iff.1 h0)⟩
 ·refine⟨_,cap,rfl,hc,.inr ⟨b,0,rfl,fun k hk=>?_⟩⟩
  have hu:l[k]?=some (l.getD k sb0):=by rw[List.getD_eq_getElem?_getD,List.getElem?_eq_getElem hk];rfl
  have key:∀ j,j < 5->w.cell? ⟨b,k * 5+j,none⟩=(l.getD k sb0).cells[j]?:=fun j hj=>(hcell (k * 5+j) (by omega)).trans (scs_get2 l k _ hu j hj)
  simp only[Nat.zero_add]
  exact⟨key 0 (by omega),key 1 (by omega),key 2 (by omega),key 3 (by omega),key 4 (by omega)⟩
theorem take_snocD {α:Type} (l:List α) (d:α) (k:Nat) (h:k < l.length):l.take (k+1)=l.take k++[l.getD k d]:=by
 rw[List.take_succ_eq_append_getElem h,List.getD_eq_getElem?_getD,List.getElem?_eq_getElem h];rfl
theorem cell5 (w:World) (a b c d e:Value) (t:TypeId):∀ j u,[a,b,c,d,e][j]?=some u->(w.alloc (.cells #[a,b,c,d,e] t)).cell? ((⟨w.heap.size,0,none⟩:Addr).add j)=some u:=by
 intro j u hj
 match j,hj with
 | 0,hj=>simp at hj;subst hj;simp[Addr.add]
 | 1,hj=>simp at hj;subst hj;simp[Addr.add]
 | 2,hj=>simp at hj;subst hj;simp[Addr.add]
 | 3,hj=>simp at hj;subst hj;simp[Addr.add]
 | 4,hj=>simp at hj;subst hj;simp[Addr.add]
theorem one5 (f:ByteArray) (q:Int) (n a:Bool) (h:Int):∀ u ∈ [Value.string f,.int .i64 q,.bool n,.bool a,.int .i64 h],u.oneCell'=true:=by
 intro u hu;simp at hu;rcases hu with rfl | rfl | rfl | rfl | rfl <;> rfl
theorem infoN:(Tryz.prog.info? 3).map (fun i=>(i.zero,i.size,i.bytes))=some (some (.int .i64 0),1,8):=by kernel_rfl
theorem infoS:(Tryz.prog.info? 9).map (fun i=>(i.zero,i.size,i.bytes))=some (some (.string ⟨#[]⟩),1,16):=by kernel_rfl
theorem infoB:(Tryz.prog.info? 93).map (fun i=>(i.zero,i.size,i.bytes))=some (some (.agg #[.string ⟨#[]⟩,.int .i64 0,.bool false,.bool false,.int .i64 0]),5,40):=by kernel_rfl
theorem cpn_core (b off cap:Nat) (l:List Int) (len:Nat) (w:World) (hlen:l.length=len) (hmx:len<=2932031007317) (hl:∀ j,j < l.length->w.cell? ⟨b,off+j,none⟩=some (.int .i64 (l.getD j 0))) :
  Calls Tryz.prog 32 #[.slice (some ⟨b,off,none⟩) len cap] w fun e w'=>∃ v,e=.returned v/\Hid (w'.ownsRow w.heap.size 3 1 v len (l.map (Value.int .i64)))/\Below w.heap.size w w':=by
 obtain⟨i0,hi,hz0,hz1,hz2⟩:=info_parts infoN
 have HL:=zh hl
 have HLEN:=zh hlen
 clear hl hlen
 go_enter Tryz.func32,Tryz.ntmps32
 go_wp2
 go_loopw [3,4] (fun v i wr=>∃ k:Nat,k<=len/\i=.int .i64 k/\Hid (wr.ownsRow w.heap.size 3 1 v k ((l.take k).map (Value.int .i64)))/\Below w.heap.size w wr) (fun _ i _=>len - (intOf i).toNat)
 case atStart=>exact⟨0,Nat.zero_le _,rfl,World.ownsRow_nil _ _ _ _,Below.refl _ _⟩
 case round =>
  obtain⟨k,hk,rfl,HOWN,hbel⟩:=hrel
  by_cases hlt:k < len
  ·have HLTk:Hid (k < l.length):=by show _ < _;rw[uh HLEN];exact hlt
   have hat:=(uh HL) k (uh HLTk)
   have HPS:Hid ((l.take (k+1)).map (Value.int .i64)=(l.take k).map (Value.int .i64)++[.int .i64 (l.getD k 0)]):=by show _=_;rw[take_snocD l 0 k (uh HLTk)];rw[List.map_append];rfl
   have hc1:=(hbel.cell (p:=⟨b,off+k,none⟩) (cell_lt hat)).trans hat
   generalize l.getD k 0=x at hc1 HPS hat
   have HBEL:=zh hbel
   have hsz:=hbel.size
   clear hat hbel
   go_wp2_with (first
    | (at_builtin;refine wpList_append_own _ rfl _ _ 29 rfl w.heap.size 3 i0 _ 1 8 Tryz.underlying29 hi hz0 hz1 hz2 rfl (by decide) _ _ _ rfl ((uh HOWN).alloc _) ⟨wr.heap.size,0,none⟩ 1 1 [.int .i64 x] rfl rfl (one_cell _ _ _) (fun u hu=>by simp at hu;subst hu;rfl) (by unfold maxLen;omega) (by omega) (by simp;omega) ?_)
    | go_in)
   intro v' w1 hown' hgrow _
   have HB1:Hid (Below w.heap.size w w1):=((uh HBEL).alloc hsz _).grown hgrow (by simp;omega) (fun k hk=>((uh HOWN).lt k hk).1)
   have HO1:Hid (w1.ownsRow w.heap.size 3 1 v' (k+1) ((l.take (k+1)).map (Value.int .i64))):=by show World.ownsRow _ _ _ _ _ _ _;rw[uh HPS];first | exact hown' | (rw[List.map_take];exact hown')
   clear hgrow hown'
   go_wp2
   go_roundw
   case rel=>exact⟨k+1,by omega,by go_num,HO1,uh HB1⟩
   case measure=>simp[intOf];omega
  ·obtain rfl:k=len:=by omega
   have HO1:Hid (wr.ownsRow w.heap.size 3 1 u3 k (l.map (Value.int .i64))):=by
    show World.ownsRow _ _ _ _ _ _ _
    have:=uh HOWN
    rw[List.take_of_length_le (Nat.le_of_eq (uh HLEN))]at this
    exact this
   go_wp2
   go_ret
   exact⟨_,rfl,HO1,hbel⟩
theorem cpn_nil (ao:Option Addr) (cap:Nat) (w:World):Calls Tryz.prog 32 #[.slice ao 0 cap] w fun e w'=>e=.returned (.slice none 0 0)/\w'=w:=by
 go_enter Tryz.func32,Tryz.ntmps32
 go_wp2
 refine wp_loop_rounds 1 ?_
 rw[rounds_succ]
 go_wp2
 go_ret
 exact⟨rfl,rfl⟩
theorem cps_core (b off cap:Nat) (l:List ByteArray) (len:Nat) (w:World) (hlen:l.length=len) (hmx:len<=2932031007317) (hl:∀ j,j < l.length->w.cell? ⟨b,off+j,none⟩=some (.string (l.getD j ⟨#[]⟩))) :
  Calls Tryz.prog 30 #[.slice (some ⟨b,off,none⟩) len cap] w fun e w'=>∃ v,e=.returned v/\Hid (w'.ownsRow w.heap.size 9 1 v len (l.map Value.string))/\Below w.heap.size w w':=by
 obtain⟨i0,hi,hz0,hz1,hz2⟩:=info_parts infoS
 have HL:=zh hl
 have HLEN:=zh hlen
 clear hl hlen
 go_enter Tryz.func30,Tryz.ntmps30
 go_wp2
 go_loopw [3,4] (fun v i wr=>∃ k:Nat,k<=len/\i=.int .i64 k/\Hid (wr.ownsRow w.heap.size 9 1 v k ((l.take k).map Value.string))/\Below w.heap.size w wr) (fun _ i _=>len - (intOf i).toNat)
 case atStart=>exact⟨0,Nat.zero_le _,rfl,World.ownsRow_nil _ _ _ _,Below.refl _ _⟩
 case round =>
  obtain⟨k,hk,rfl,HOWN,hbel⟩:=hrel
  by_cases hlt:k < len
  ·have HLTk:Hid (k < l.length):=by show _ < _;rw[uh HLEN];exact hlt
   have hat:=(uh HL) k (uh HLTk)
   have HPS:Hid ((l.take (k+1)).map Value.string=(l.take k).map Value.string++[.string (l.getD k ⟨#[]⟩)]):=by show _=_;rw[take_snocD l ⟨#[]⟩ k (uh HLTk)];rw[List.map_append];rfl
   have hc1:=(hbel.cell (p:=⟨b,off+k,none⟩) (cell_lt hat)).trans hat
   generalize l.getD k ⟨#[]⟩=x at hc1 HPS hat
   have HBEL:=zh hbel
   have hsz:=hbel.size
   clear hat hbel
   go_wp2_with (first
    | (at_builtin;refine wpList_append_own _ rfl _ _ 27 rfl w.heap.size 9 i0 _ 1 16 Tryz.underlying27 hi hz0 hz1 hz2 rfl (by decide) _ _ _ rfl ((uh HOWN).alloc _) ⟨wr.heap.size,0,none⟩ 1 1 [.string x] rfl rfl (one_cell _ _ _) (fun u hu=>by simp at hu;subst hu;rfl) (by unfold maxLen;omega) (by omega) (by simp;omega) ?_)
    | go_in)
   intro v' w1 hown' hgrow _
   have HB1:Hid (Below w.heap.size w w1):=((uh HBEL).alloc hsz _).grown hgrow (by simp;omega) (fun k hk=>((uh HOWN).lt k hk).1)
   have HO1:Hid (w1.ownsRow w.heap.size 9 1 v' (k+1) ((l.take (k+1)).map Value.string)):=by show World.ownsRow _ _ _ _ _ _ _;rw[uh HPS];first | exact hown' | (rw[List.map_take];exact hown')
   clear hgrow hown'
   go_wp2
   go_roundw
   case rel=>exact⟨k+1,by omega,by go_num,HO1,uh HB1⟩
   case measure=>simp[intOf];omega
  ·obtain rfl:k=len:=by omega
   have HO1:Hid (wr.ownsRow w.heap.size 9 1 u3 k (l.map Value.string)):=by
    show World.ownsRow _ _ _ _ _ _ _
    have:=uh HOWN
    rw[List.take_of_length_le (Nat.le_of_eq (uh HLEN))]at this
    exact this
   go_wp2
   go_ret
   exact⟨_,rfl,HO1,hbel⟩
theorem cps_nil (ao:Option Addr) (cap:Nat) (w:World):Calls Tryz.prog 30 #[.slice ao 0 cap] w fun e w'=>e=.returned (.slice none 0 0)/\w'=w:=by
 go_enter Tryz.func30,Tryz.ntmps30
 go_wp2
 refine wp_loop_rounds 1 ?_
 rw[rounds_succ]
 go_wp2
 go_ret
 exact⟨rfl,rfl⟩
theorem cpb_core (b off cap:Nat) (l:List Sb) (len:Nat) (w:World) (hlen:l.length=len) (hmx:len<=2932031007317) (hl:SbAt w b off l) :
  Calls Tryz.prog 31 #[.slice (some ⟨b,off,none⟩) len cap] w fun e w'=>∃ v,e=.returned v/\Hid (w'.ownsRow w.heap.size 93 5 v len (scs l))/\Below w.heap.size w w':=by
 obtain⟨i0,hi,hz0,hz1,hz2⟩:=info_parts infoB
 have HL:=zh hl
 have HLEN:=zh hlen
 clear hl hlen
 go_enter Tryz.func31,Tryz.ntmps31
 go_wp2
 go_loopw [3,4] (fun v i wr=>∃ k:Nat,k<=len/\i=.int .i64 k/\Hid (wr.ownsRow w.heap.size 93 5 v k (scs (l.take k)))/\Below w.heap.size w wr) (fun _ i _=>len - (intOf i).toNat)
 case atStart=>exact⟨0,Nat.zero_le _,rfl,World.ownsRow_nil _ _ _ _,Below.refl _ _⟩
 case round =>
  obtain⟨k,hk,rfl,HOWN,hbel⟩:=hrel
  by_cases hlt:k < len
  ·have HLTk:Hid (k < l.length):=by show _ < _;rw[uh HLEN];exact hlt
   have hat:=(uh HL) k (uh HLTk)
   have HPS:Hid (scs (l.take (k+1))=scs (l.take k)++(l.getD k sb0).cells):=by show _=_;rw[take_snocD l sb0 k (uh HLTk)];unfold scs;rw[List.flatMap_append];simp
   obtain⟨d0,d1,d2,d3,d4⟩:=hat
   have hbl:b < w.heap.size:=cell_lt d0
   have e0:=(hbel.cell hbl).trans d0
   have e1:=(hbel.cell hbl).trans d1
   have e2:=(hbel.cell hbl).trans d2
   have e3:=(hbel.cell hbl).trans d3
   have e4:=(hbel.cell hbl).trans d4
   clear d0 d1 d2 d3 d4
   obtain⟨f,q,n,a,h,hp⟩:∃ f q n a h,l.getD k sb0=⟨f,q,n,a,h⟩:=⟨_,_,_,_,_,rfl⟩
   rw[hp]at e0 e1 e2 e3 e4 HPS
   simp only at e0 e1 e2 e3 e4
   clear hp
   have HBEL:=zh hbel
   have hsz:=hbel.size
   clear hbel
   go_wp2_with (first
    | (at_builtin;refine wpList_append_own _ rfl _ _ 28 rfl w.heap.size 93 i0 _ 5 40 Tryz.underlying28 hi hz0 hz1 hz2 rfl (by decide) _ _ _ rfl ((uh HOWN).alloc _) ⟨wr.heap.size,0,none⟩ 1 1 [.string f,.int .i64 q,.bool n,.bool a,.int .i64 h] rfl rfl (cell5 _ _ _ _ _ _ _) (one5 _ _ _ _ _) (by unfold maxLen;omega) (by omega) (by simp;omega) ?_)
    | go_in)
   intro v' w1 hown' hgrow _
   have HB1:Hid (Below w.heap.size w w1):=((uh HBEL).alloc hsz _).grown hgrow (by simp;omega) (fun k hk=>((uh HOWN).lt k hk).1)
   have HO1:Hid (w1.ownsRow w.heap.size 93 5 v' (k+1) (scs (l.take (k+1)))):=by show World.ownsRow _ _ _ _ _ _ _;rw[uh HPS];first | exact hown' | (rw[List.map_take];exact hown')
   clear hgrow hown'
   go_wp2
   go_roundw
   case rel=>exact⟨k+1,by omega,by go_num,HO1,uh HB1⟩
   case measure=>simp[intOf];omega
  ·obtain rfl:k=len:=by omega
   have HO1:Hid (wr.ownsRow w.heap.size 93 5 u3 k (scs l)):=by
    show World.ownsRow _ _ _ _ _ _ _
    have:=uh HOWN
    rw[List.take_of_length_le (Nat.le_of_eq (uh HLEN))]at this
    exact this
   go_wp2
   go_ret
   exact⟨_,rfl,HO1,hbel⟩
theorem cpb_nil (ao:Option Addr) (cap:Nat) (w:World):Calls Tryz.prog 31 #[.slice ao 0 cap] w fun e w'=>e=.returned (.slice none 0 0)/\w'=w:=by
 go_enter Tryz.func31,Tryz.ntmps31
 go_wp2
 refine wp_loop_rounds 1 ?_
 rw[rounds_succ]
 go_wp2
 go_ret
 exact⟨rfl,rfl⟩
end Go.Proofs.YtdkmmmjjdlnnoaaGreatDoor.K
