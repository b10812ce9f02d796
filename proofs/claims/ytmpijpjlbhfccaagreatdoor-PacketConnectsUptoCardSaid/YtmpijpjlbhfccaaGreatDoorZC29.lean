/- Helpers of the proof. -/
import Derived.Test.YtmpijpjlbhfccaaGreatDoorZC27
import Derived.Test.YtmpijpjlbhfccaaGreatDoorZC28
import Derived.Test.YtmpijpjlbhfccaaGreatDoorZC15
set_option maxHeartbeats 20000000
namespace Go.Proofs.YtmpijpjlbhfccaaGreatDoor.K
open Go.RowKit
set_option maxRecDepth 100000
theorem pk_conn {w0 w:World} {W:Nat} {p:Pkv} (h:WQ w0 w W p (some []) 0) (hf:Fit p) (vs:List Wv) (hW:Rw w0 p.wills 5 (wcs vs)) (l:List Pr) (hP:Prp w0 p.props.val l) (hmx:l.length<=4398046511104) (hsm:Go.Proofs.YtmpijpjlbhfccaaGreatDoor.Small l) (hcl:p.client.size<=4611686018427387904) (hkp:-9223372036854775808<=p.keep/\p.keep<=9223372036854775807)
  (hun:p.user.n<=maxLen) (hpn:p.pass.n<=maxLen) (hfl:-9223372036854775808<=cfl p.user.n p.pass.n p.clean vs/\cfl p.user.n p.pass.n p.clean vs<=9223372036854775807)
  (ws:List Wl) (wn:Nat) (hwn:ws.length=wn) (wo:Option Addr) (wc:Nat) (hwv:p.wills.val=.slice wo wn wc) (hWS:ws=[]\/∃ b off,wo=some ⟨b,off,none⟩/\WlAt w0 b off ws) (hWO:∀ k,k<ws.length->WlOk (ws.getD k wl0))
  (us:List ByteArray) (un:Nat) (hus:us.length=un) (uo:Option Addr) (uc:Nat) (huv:p.user.val=.slice uo un uc) (hUS:us=[]\/∃ b off,uo=some ⟨b,off,none⟩/\∀ j,j<us.length->w0.cell? ⟨b,off+j,none⟩=some (.string (us.getD j ⟨#[]⟩))) (hUO:∀ k,k<us.length->(us.getD k ⟨#[]⟩).size<=4611686018427387904)
  (ps:List ByteArray) (pn:Nat) (hps:ps.length=pn) (po:Option Addr) (pc:Nat) (hpv:p.pass.val=.slice po pn pc) (hPS:ps=[]\/∃ b off,po=some ⟨b,off,none⟩/\∀ j,j<ps.length->w0.cell? ⟨b,off+j,none⟩=some (.string (ps.getD j ⟨#[]⟩)))
  (c:Nat) (hc:6000000<=c) (hm:6000000+wn*c+un*c+pn*c<=4611686018427300000) (hk:p.kind=1) :
  Calls Tryz.prog 24 #[.pointer (some ⟨W,0,none⟩)] w (GPost w0 W p.no_clean.no_keep.no_props.no_client.no_wills.no_user.no_pass ((sConn p.kind (cfl p.user.n p.pass.n p.clean vs) p.keep (cok p.user.n p.pass.n vs) l p.client ws us ps []).bind (sMust (emp (p.no_clean.no_keep.no_props.no_client.no_wills.no_user.no_pass)))) (6000000+wn*c+un*c+pn*c)):=by
 have hkc:=h.pk.kind
 have HC:=zh (conn_any h vs hW l hP hmx hsm hcl hkp hun hpn hfl ws wn hwn wo wc hwv hWS hWO us un hus uo uc huv hUS hUO ps pn hps po pc hpv hPS c hc hm)
 clear hW hP hmx hsm hcl hkp hun hpn hfl hwn hwv hWS hWO hus huv hUS hUO hps hpv hPS hc hm
 have HQ:=zh h
 rw[hk]at hkc
 have HK8:=zh hk
 clear h hk
 go_enter Tryz.func24,Tryz.ntmps24
 go_wp2_with fail
 refine (uh HC).mono ?_
 rintro e w1 ⟨rfl,hq1⟩
 have HF:=zh hq1
 clear hq1 HQ hkc HC
 go_upto_region 25 with fail
 iterate 13 go_step
 refine wpList_load_mid rfl 31 _ rfl W 0 rfl (p.no_clean.no_keep.no_props.no_client.no_wills.no_user.no_pass).cells _ (uh HF).pk.range Tryz.underlying31 rfl packet_size ?_
 simp only[sp]
 go_wp2_with fail
 refine (empty_any (p.no_clean.no_keep.no_props.no_client.no_wills.no_user.no_pass) hf.no_clean.no_keep.no_props.no_client.no_wills.no_user.no_pass _).mono ?_
 rintro e x1 ⟨rfl,hx1⟩
 have HFa:=zh ((uh HF).below hx1)
 clear hx1 HF
 go_wp2_with fail
 refine (must_f (uh HFa) (emp (p.no_clean.no_keep.no_props.no_client.no_wills.no_user.no_pass))).mono ?_
 rintro e x2 ⟨rfl,hx2⟩
 have HFb:=zh hx2
 clear hx2 HFa
 go_wp2
 go_end0
 exact⟨rfl,uh HFb⟩
def Pa.no_dup (P:Pa):Pa:={ P with dup:=false }
def Pa.no_qos (P:Pa):Pa:={ P with qos:=0 }
def Pa.no_retain (P:Pa):Pa:={ P with retain:=false }
def Pa.no_topic (P:Pa):Pa:={ P with topic:=⟨#[]⟩ }
def Pa.no_id (P:Pa):Pa:={ P with id:=0 }
def Pa.no_payload (P:Pa):Pa:={ P with payload:=⟨#[]⟩ }
def Pa.no_props (P:Pa):Pa:={ P with props:=[] }
def Pa.no_client (P:Pa):Pa:={ P with client:=⟨#[]⟩ }
def Pa.no_clean (P:Pa):Pa:={ P with clean:=false }
def Pa.no_keep (P:Pa):Pa:={ P with keep:=0 }
def Pa.no_wills (P:Pa):Pa:={ P with wills:=[] }
def Pa.no_user (P:Pa):Pa:={ P with user:=[] }
def Pa.no_pass (P:Pa):Pa:={ P with pass:=[] }
def Pa.no_code (P:Pa):Pa:={ P with code:=0 }
def Pa.no_session (P:Pa):Pa:={ P with session:=false }
def Pa.no_subs (P:Pa):Pa:={ P with subs:=[] }
def Pa.no_filters (P:Pa):Pa:={ P with filters:=[] }
def Pa.no_codes (P:Pa):Pa:={ P with codes:=[] }
def EmpA (P:Pa):Prop:=(P.dup=false/\P.retain=false/\P.clean=false/\P.session=false)/\(P.qos=0/\P.id=0/\P.keep=0/\P.code=0)/\(P.topic.size=0/\P.payload.size=0/\P.client.size=0)/\(P.props.length=0/\P.wills.length=0/\P.user.length=0/\P.pass.length=0/\P.subs.length=0/\P.filters.length=0/\P.codes.length=0)
instance (P:Pa):Decidable (EmpA P):=by unfold EmpA;exact inferInstance
def empA (P:Pa):Bool:=decide (EmpA P)
structure Cnt (q:Pkv) (P:Pa):Prop where
 sc:q.kind=P.kind/\q.dup=P.dup/\q.qos=P.qos/\q.retain=P.retain/\q.topic=P.topic/\q.id=P.id/\q.payload=P.payload/\q.client=P.client/\q.clean=P.clean/\q.keep=P.keep/\q.code=P.code/\q.session=P.session
 ns:q.props.n=P.props.length/\q.wills.n=P.wills.length/\q.user.n=P.user.length/\q.pass.n=P.pass.length/\q.subs.n=P.subs.length/\q.filters.n=P.filters.length/\q.codes.n=P.codes.length
theorem Cnt.emp {q:Pkv} {P:Pa} (h:Cnt q P):emp q=empA P:=by
 obtain⟨⟨h0,h1,h2,h3,h4,h5,h6,h7,h8,h9,h10,h11⟩,k0,k1,k2,k3,k4,k5,k6⟩:=h
 unfold K.emp empA
 rw[decide_eq_decide]
 unfold Emp EmpA
 rw[h1,h2,h3,h4,h5,h6,h7,h8,h9,h10,h11,k0,k1,k2,k3,k4,k5,k6]
theorem Cnt.no_props {q:Pkv} {P:Pa} (h:Cnt q P):Cnt q.no_props P.no_props:=by
 obtain⟨⟨h0,h1,h2,h3,h4,h5,h6,h7,h8,h9,h10,h11⟩,k0,k1,k2,k3,k4,k5,k6⟩:=h
 exact⟨⟨h0,h1,h2,h3,h4,h5,h6,h7,h8,h9,h10,h11⟩,rfl,k1,k2,k3,k4,k5,k6⟩
theorem Cnt.no_client {q:Pkv} {P:Pa} (h:Cnt q P):Cnt q.no_client P.no_client:=by
 obtain⟨⟨h0,h1,h2,h3,h4,h5,h6,h7,h8,h9,h10,h11⟩,k0,k1,k2,k3,k4,k5,k6⟩:=h
 exact⟨⟨h0,h1,h2,h3,h4,h5,h6,rfl,h8,h9,h10,h11⟩,k0,k1,k2,k3,k4,k5,k6⟩
theorem Cnt.no_clean {q:Pkv} {P:Pa} (h:Cnt q P):Cnt q.no_clean P.no_clean:=by
 obtain⟨⟨h0,h1,h2,h3,h4,h5,h6,h7,h8,h9,h10,h11⟩,k0,k1,k2,k3,k4,k5,k6⟩:=h
 exact⟨⟨h0,h1,h2,h3,h4,h5,h6,h7,rfl,h9,h10,h11⟩,k0,k1,k2,k3,k4,k5,k6⟩
theorem Cnt.no_keep {q:Pkv} {P:Pa} (h:Cnt q P):Cnt q.no_keep P.no_keep:=by
 obtain⟨⟨h0,h1,h2,h3,h4,h5,h6,h7,h8,h9,h10,h11⟩,k0,k1,k2,k3,k4,k5,k6⟩:=h
 exact⟨⟨h0,h1,h2,h3,h4,h5,h6,h7,h8,rfl,h10,h11⟩,k0,k1,k2,k3,k4,k5,k6⟩
theorem Cnt.no_wills {q:Pkv} {P:Pa} (h:Cnt q P):Cnt q.no_wills P.no_wills:=by
 obtain⟨⟨h0,h1,h2,h3,h4,h5,h6,h7,h8,h9,h10,h11⟩,k0,k1,k2,k3,k4,k5,k6⟩:=h
 exact⟨⟨h0,h1,h2,h3,h4,h5,h6,h7,h8,h9,h10,h11⟩,k0,rfl,k2,k3,k4,k5,k6⟩
theorem Cnt.no_user {q:Pkv} {P:Pa} (h:Cnt q P):Cnt q.no_user P.no_user:=by
 obtain⟨⟨h0,h1,h2,h3,h4,h5,h6,h7,h8,h9,h10,h11⟩,k0,k1,k2,k3,k4,k5,k6⟩:=h
 exact⟨⟨h0,h1,h2,h3,h4,h5,h6,h7,h8,h9,h10,h11⟩,k0,k1,rfl,k3,k4,k5,k6⟩
theorem Cnt.no_pass {q:Pkv} {P:Pa} (h:Cnt q P):Cnt q.no_pass P.no_pass:=by
 obtain⟨⟨h0,h1,h2,h3,h4,h5,h6,h7,h8,h9,h10,h11⟩,k0,k1,k2,k3,k4,k5,k6⟩:=h
 exact⟨⟨h0,h1,h2,h3,h4,h5,h6,h7,h8,h9,h10,h11⟩,k0,k1,k2,rfl,k4,k5,k6⟩
theorem sl_n {v:Value} {s:Sl} (hs:s.val=v) {a:Option Addr} {n c:Nat} (h:v=.slice a n c):s.n=n:=by
 subst hs
 simp only[Sl.val,Value.slice.injEq]at h
 exact h.2.1
theorem RPk.cnt {w:World} {q:Pkv} {P:Pa} (h:RPk w q P):Cnt q P:=by
 obtain⟨h0,⟨_,_,h1,_⟩,⟨_,_,h2,_⟩,⟨_,_,h3,_⟩,⟨_,_,h4,_⟩,⟨_,_,h5,_⟩,⟨_,_,h6,_⟩,⟨_,_,h7,_⟩⟩:=h
 exact⟨h0,sl_n rfl h1,sl_n rfl h2,sl_n rfl h3,sl_n rfl h4,sl_n rfl h5,sl_n rfl h6,sl_n rfl h7⟩
def cstepA (f:Int) (u:Wl):Int:=bits .or .i64 f (bits .or .i64 (bits .or .i64 4 (fv u.retain 32)) (IntKind.i64.wrap (u.qos*8)))
def cflA (P:Pa):Int:=P.wills.foldl cstepA (cfl0 P.user.length P.pass.length P.clean)
def cokA (P:Pa):Bool:=cok0 P.wills.length P.user.length P.pass.length&&P.wills.all fun u=>mq u.qos
def fkA (P:Pa):Int×Bool:=if P.kind=3 then (pfl P.dup P.qos P.retain,pok P.dup P.qos) else if P.kind=6\/P.kind=8\/P.kind=10 then (2,true) else (0,decide (1<=P.kind)&&decide (P.kind<=15))
def sIdA (P:Pa):Option (List Int):=(some []).bind (sAdd (in16 P.id&&P.id != 0) (b2 P.id))
def sIpA (P:Pa):Option (List Int):=(sIdA P).bind (sAdd (okP P.kind P.props) (pbs P.props))
def eb (P:Pa):Option (List Int) :=
 if P.kind=1 then (sConn P.kind (cflA P) P.keep (cokA P) P.props P.client P.wills P.user P.pass []).bind (sMust (empA P.no_clean.no_keep.no_props.no_client.no_wills.no_user.no_pass))
 else if P.kind=2 then ((((some []).bind (sAdd (in8 (fv P.session 1)) [fv P.session 1 % 256])).bind (sAdd (in8 P.code) [P.code % 256])).bind (sAdd (okP P.kind P.props) (pbs P.props))).bind (sMust (empA P.no_session.no_code.no_props))
 else if P.kind=3 then (sPub P.topic P.qos P.id P.kind P.props P.payload []).bind (sMust (if 0<P.qos then empA P.no_dup.no_retain.no_topic.no_qos.no_id.no_props.no_payload else empA P.no_dup.no_retain.no_topic.no_qos.no_props.no_payload))
 else if P.kind=4\/P.kind=5\/P.kind=6\/P.kind=7 then ((sIdA P).bind (sReason P.code P.kind P.props)).bind (sMust (empA P.no_id.no_code.no_props))
 else if P.kind=8 then (((sIpA P).bind (sMust (mc P.subs.length))).bind (sEach sSub P.subs)).bind (sMust (empA P.no_id.no_props.no_subs))
 else if P.kind=10 then (((sIpA P).bind (sMust (mc P.filters.length))).bind (sEach sTx P.filters)).bind (sMust (empA P.no_id.no_props.no_filters))
 else if P.kind=9\/P.kind=11 then (((sIpA P).bind (sMust (mc P.codes.length))).bind (sEach sCode P.codes)).bind (sMust (empA P.no_id.no_props.no_codes))
 else if P.kind=14\/P.kind=15 then ((some []).bind (sReason P.code P.kind P.props)).bind (sMust (empA P.no_code.no_props))
 else (some []).bind (sMust (empA P))
structure Big (P:Pa):Prop where
 nums:(-9223372036854775808<=P.qos/\P.qos<=9223372036854775807)/\(-9223372036854775808<=P.id/\P.id<=9223372036854775807)/\(-9223372036854775808<=P.keep/\P.keep<=9223372036854775807)/\(-9223372036854775808<=P.code/\P.code<=9223372036854775807)
 texts:P.topic.size<=1000000000000000000/\P.payload.size<=1073741824/\P.client.size<=1000000000000000000
 lists:P.props.length<=4398046511104/\P.wills.length<=1000000/\P.user.length<=1000000/\P.pass.length<=1000000/\P.subs.length<=1000000/\P.filters.length<=1000000/\P.codes.length<=1000000
 props:Go.Proofs.YtmpijpjlbhfccaaGreatDoor.Small P.props
 wills:∀ k,k<P.wills.length->WlOk (P.wills.getD k wl0)
 user:∀ k,k<P.user.length->(P.user.getD k ⟨#[]⟩).size<=4611686018427387904
 subs:∀ k,k<P.subs.length->(P.subs.getD k sb0).filter.size<=4611686018427387904
 filters:∀ k,k<P.filters.length->(P.filters.getD k ⟨#[]⟩).size<=4611686018427387904
 codes:∀ k,k<P.codes.length->-9223372036854775808<=P.codes.getD k 0/\P.codes.getD k 0<=9223372036854775807
theorem Big.fit {q:Pkv} {P:Pa} (h:Big P) (hc:Cnt q P):Fit q:=by
 obtain⟨⟨h0,h1,h2,h3,h4,h5,h6,h7,h8,h9,h10,h11⟩,k0,k1,k2,k3,k4,k5,k6⟩:=hc
 have n:=h.nums
 have t:=h.texts
 have l:=h.lists
 rw[<- h2,<- h5,<- h9,<- h10]at n
 rw[<- h4,<- h6,<- h7]at t
 rw[<- k0,<- k1,<- k2,<- k3,<- k4,<- k5,<- k6]at l
 exact⟨n,⟨by omega,by omega,by omega⟩,by omega,by omega,by omega,by omega,by omega,by omega,by omega⟩
theorem fk_any (q:Pkv) (P:Pa) (hc:Cnt q P) (w:World):Calls Tryz.prog 22 #[.agg q.cells.toArray] w fun e w'=>e=.returned (.tuple #[.int .i64 (fkA P).1,.bool (fkA P).2])/\Below w.heap.size w w':=by
 obtain⟨h0,h1,h2,h3,-⟩:=hc.sc
 show Calls Tryz.prog 22 #[q.val] w _
 unfold fkA
 rw[<- h0,<- h1,<- h2,<- h3]
 by_cases k3:q.kind=3
 ·rw[if_pos k3]
  exact flagsOf_pub q w k3
 ·rw[if_neg k3]
  by_cases k:q.kind=6\/q.kind=8\/q.kind=10
  ·rw[if_pos k]
   exact flagsOf_fixed q w k
  ·rw[if_neg k]
   exact flagsOf_other q w k3 (fun e=>k (.inl e)) (fun e=>k (.inr (.inl e))) (fun e=>k (.inr (.inr e)))
end Go.Proofs.YtmpijpjlbhfccaaGreatDoor.K
