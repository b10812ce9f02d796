/- Proved here: helpers, one text behind the other. -/
import Derived.Test.YtccnjdgaldbgnaaGreatDoorZC35
import Derived.Test.YtccnjdgaldbgnaaGreatDoorZC36
import Derived.Test.YtccnjdgaldbgnaaGreatDoorZC22
import Derived.Test.YtccnjdgaldbgnaaGreatDoorZC23
set_option maxHeartbeats 20000000
namespace Go.Proofs.YtccnjdgaldbgnaaGreatDoor.K
open Go.RowKit
set_option maxRecDepth 100000
def sTx (s:ByteArray):List Int->Option (List Int):=sAdd (okT s) (tx s)
def sCode (n:Int):List Int->Option (List Int):=sAdd (in8 n) [n % 256]
theorem wl_subs_core {w0 w:World} {W:Nat} {p:Pkv} {st:Option (List Int)} {m:Nat} (h:WQ w0 w W p st m) (hk:p.kind=8) (ss:List Sb) (len:Nat) (hln:ss.length=len) (ao:Option Addr) (cap:Nat) (hv:p.subs.val=.slice ao len cap) (hlc:len<=cap) (hS:ss=[]\/∃ b off,ao=some ⟨b,off,none⟩/\SbAt w0 b off ss) (hz:∀ k,k < ss.length->(ss.getD k sb0).filter.size<=4611686018427387904) (hg:Ge2 st) (c:Nat) (hc:70001<=c) (hm:m+len * c<=4611686018427300000) :
  Calls Tryz.prog 43 #[.pointer (some ⟨W,0,none⟩)] w fun e w'=>e=.returned (.tuple #[])/\WQ w0 w' W p.no_subs ((st.bind (sMust (mc len))).bind (sEach sSub ss)) (m+len * c):=by
 have HG:=zh hg
 have HZ:=zh hz
 clear hz
 have hkc:=h.pk.kind
 rw[hk]at hkc
 have HQ:=zh h
 have HV:=zh hv
 have HS:=zh hS
 have HLN:=zh hln
 have hlen:len<=4611686018427300000:=Nat.le_trans (Nat.le_mul_of_pos_right _ (by omega)) (show len * c<=4611686018427300000 from by omega)
 clear h hg hv hS hln
 go_enter Tryz.func43,Tryz.ntmps43
 go_wp2_with fail
 refine (take_subs_q (uh HQ) _ rfl).mono ?_
 rintro e w1 ⟨rfl,hq1⟩
 rw[uh HV]
 have HQ1:=zh hq1
 clear hq1 HQ HV hkc
 go_wp2_with fail
 refine (mayCount_any _ _).mono ?_
 rintro e w2 ⟨rfl,hw2⟩
 obtain rfl:=hw2.symm
 clear hw2
 go_wp2_with fail
 refine (must_q (uh HQ1) (mc len)).mono ?_
 rintro e w3 ⟨rfl,hq3,-⟩
 have HQ3:=zh hq3
 have HG3:=zh ((uh HG).must (mc len))
 clear hq3 HQ1 HG
 obtain⟨s1,HST⟩:∃ s1,Hid (s1=st.bind (sMust (mc len))):=⟨_,rfl⟩
 rw[<- uh HST]at HQ3 HG3
 go_wp2
 go_loopw [51] (fun i wr=>∃ k:Nat,k<=len/\i=.int .i64 k/\Hid (WQ w0 wr W p.no_subs (s1.bind (sEach sSub (ss.take k))) (m+k * c))/\Hid (Ge2 (s1.bind (sEach sSub (ss.take k))))) (fun i _=>len - (intOf i).toNat)
 case atStart=>exact⟨0,Nat.zero_le _,rfl,by rw[each_nil,Nat.zero_mul];exact HQ3,by rw[each_nil];exact HG3⟩
 case round =>
  obtain⟨k,hk,rfl,HQK,HGK⟩:=hrel
  clear HQ3 HG3
  by_cases hlt:k < len
  ·have hkl:k < ss.length:=by rw[uh HLN];exact hlt
   have HE:=zh (each_snoc sSub sb0 s1 ss k hkl)
   have hmk:m+k * c+c<=4611686018427300000:=by
    have:=Nat.mul_le_mul_right c (show k+1<=len from hlt)
    rw[Nat.succ_mul]at this
    omega
   have HMS:Hid (m+k * c+c=m+(k+1) * c):=by show _=_;rw[Nat.succ_mul];omega
   obtain⟨b,off,rfl,hcl⟩:∃ b off,ao=some ⟨b,off,none⟩/\SbAt w0 b off ss:=by
    rcases uh HS with e | k
    ·rw[e]at hkl;simp at hkl
    ·exact k
   have hb:=hcl k hkl
   have hB:=(uh HQK).bel
   obtain⟨d0,d1,d2,d3,d4⟩:=hb
   have hbl:b < w0.heap.size:=cell_lt d0
   have e0:=(hB.cell hbl).trans d0
   have e1:=(hB.cell hbl).trans d1
   have e2:=(hB.cell hbl).trans d2
   have e3:=(hB.cell hbl).trans d3
   have e4:=(hB.cell hbl).trans d4
   have hzz:=(uh HZ) k hkl
   clear d0 d1 d2 d3 d4
   generalize ss.getD k sb0=sv at e0 e1 e2 e3 e4 hzz HE
   clear hcl hB
   generalize m+k * c=mk at HQK hmk HMS
   go_wp2_with fail
   refine (sub_q ((uh HQK).below (bal _ _)) sv hzz (uh HGK) (by omega)).mono ?_
   rintro e w5 ⟨rfl,hq5,-⟩
   have HQ5:=zh (hq5.mono (show _<=mk+c from by omega))
   clear hq5 HQK e0 e1 e2 e3 e4
   go_wp2
   go_roundw
   case rel=>exact⟨k+1,by omega,by go_num,by rw[uh HE,<- uh HMS];exact HQ5,by rw[uh HE];exact (uh HGK).sub _⟩
   case measure=>simp[intOf];omega
  ·obtain rfl:k=len:=by omega
   have HF:Hid (WQ w0 wr W p.no_subs ((st.bind (sMust (mc k))).bind (sEach sSub ss)) (m+k * c)):=by
    have q:=uh HQK
    rw[List.take_of_length_le (Nat.le_of_eq (uh HLN)),uh HST]at q
    exact q
   go_wp2
   go_end0
   exact⟨rfl,uh HF⟩
theorem wl_subs {w0 w:World} {W:Nat} {p:Pkv} {st:Option (List Int)} {m:Nat} (h:WQ w0 w W p st m) (hk:p.kind=8) (ss:List Sb) (hS:Sbs w0 p.subs.val ss) (hz:∀ k,k < ss.length->(ss.getD k sb0).filter.size<=4611686018427387904) (hg:Ge2 st) (c:Nat) (hc:70001<=c) (hm:m+ss.length * c<=4611686018427300000) :
  Calls Tryz.prog 43 #[.pointer (some ⟨W,0,none⟩)] w fun e w'=>e=.returned (.tuple #[])/\WQ w0 w' W p.no_subs ((st.bind (sMust (mc ss.length))).bind (sEach sSub ss)) (m+ss.length * c):=by
 obtain⟨ao,cap,hv,⟨hlc,_⟩,hS⟩:=hS
 exact wl_subs_core h hk ss _ rfl ao cap hv hlc hS hz hg c hc hm
theorem wl_filters_core {w0 w:World} {W:Nat} {p:Pkv} {st:Option (List Int)} {m:Nat} (h:WQ w0 w W p st m) (hk:p.kind=10) (ss:List ByteArray) (len:Nat) (hln:ss.length=len) (ao:Option Addr) (cap:Nat) (hv:p.filters.val=.slice ao len cap) (hlc:len<=cap) (hS:ss=[]\/∃ b off,ao=some ⟨b,off,none⟩/\∀ j,j < ss.length->w0.cell? ⟨b,off+j,none⟩=some (.string (ss.getD j ⟨#[]⟩))) (hz:∀ k,k < ss.length->(ss.getD k ⟨#[]⟩).size<=4611686018427387904) (hg:Ge2 st) (c:Nat) (hc:70001<=c) (hm:m+len * c<=4611686018427300000) :
  Calls Tryz.prog 43 #[.pointer (some ⟨W,0,none⟩)] w fun e w'=>e=.returned (.tuple #[])/\WQ w0 w' W p.no_filters ((st.bind (sMust (mc len))).bind (sEach sTx ss)) (m+len * c):=by
 have HG:=zh hg
 have HZ:=zh hz
 clear hz
 have hkc:=h.pk.kind
 rw[hk]at hkc
 have HQ:=zh h
 have HV:=zh hv
 have HS:=zh hS
 have HLN:=zh hln
 have hlen:len<=4611686018427300000:=Nat.le_trans (Nat.le_mul_of_pos_right _ (by omega)) (show len * c<=4611686018427300000 from by omega)
 clear h hg hv hS hln
 go_enter Tryz.func43,Tryz.ntmps43
 go_wp2_with fail
 refine (take_filters_q (uh HQ) _ rfl).mono ?_
 rintro e w1 ⟨rfl,hq1⟩
 rw[uh HV]
 have HQ1:=zh hq1
 clear hq1 HQ HV hkc
 go_wp2_with fail
 refine (mayCount_any _ _).mono ?_
 rintro e w2 ⟨rfl,hw2⟩
 obtain rfl:=hw2.symm
 clear hw2
 go_wp2_with fail
 refine (must_q (uh HQ1) (mc len)).mono ?_
 rintro e w3 ⟨rfl,hq3,-⟩
 have HQ3:=zh hq3
 have HG3:=zh ((uh HG).must (mc len))
 clear hq3 HQ1 HG
 obtain⟨s1,HST⟩:∃ s1,Hid (s1=st.bind (sMust (mc len))):=⟨_,rfl⟩
 rw[<- uh HST]at HQ3 HG3
 go_wp2
 go_loopw [72] (fun i wr=>∃ k:Nat,k<=len/\i=.int .i64 k/\Hid (WQ w0 wr W p.no_filters (s1.bind (sEach sTx (ss.take k))) (m+k * c))/\Hid (Ge2 (s1.bind (sEach sTx (ss.take k))))) (fun i _=>len - (intOf i).toNat)
 case atStart=>exact⟨0,Nat.zero_le _,rfl,by rw[each_nil,Nat.zero_mul];exact HQ3,by rw[each_nil];exact HG3⟩
 case round =>
  obtain⟨k,hk,rfl,HQK,HGK⟩:=hrel
  clear HQ3 HG3
  by_cases hlt:k < len
  ·have hkl:k < ss.length:=by rw[uh HLN];exact hlt
   have HE:=zh (each_snoc sTx ⟨#[]⟩ s1 ss k hkl)
   have hmk:m+k * c+c<=4611686018427300000:=by
    have:=Nat.mul_le_mul_right c (show k+1<=len from hlt)
    rw[Nat.succ_mul]at this
    omega
   have HMS:Hid (m+k * c+c=m+(k+1) * c):=by show _=_;rw[Nat.succ_mul];omega
   obtain⟨b,off,rfl,hcl⟩:∃ b off,ao=some ⟨b,off,none⟩/\∀ j,j < ss.length->w0.cell? ⟨b,off+j,none⟩=some (.string (ss.getD j ⟨#[]⟩)):=by
    rcases uh HS with e | k
    ·rw[e]at hkl;simp at hkl
    ·exact k
   have hb:=hcl k hkl
   have hB:=(uh HQK).bel
   have e0:=(hB.cell (cell_lt hb)).trans hb
   have hzz:=(uh HZ) k hkl
   generalize ss.getD k ⟨#[]⟩=sv at e0 hzz HE hb
   clear hcl hb hB
   generalize m+k * c=mk at HQK hmk HMS
   go_wp2_with fail
   refine (text_q (uh HQK) sv hzz (uh HGK).one (by omega)).mono ?_
   rintro e w5 ⟨rfl,hq5,-⟩
   have HQ5:=zh (hq5.mono (show _<=mk+c from by omega))
   clear hq5 HQK e0
   go_wp2
   go_roundw
   case rel=>exact⟨k+1,by omega,by go_num,by rw[uh HE,<- uh HMS];exact HQ5,by rw[uh HE];exact (uh HGK).add _ _⟩
   case measure=>simp[intOf];omega
  ·obtain rfl:k=len:=by omega
   have HF:Hid (WQ w0 wr W p.no_filters ((st.bind (sMust (mc k))).bind (sEach sTx ss)) (m+k * c)):=by
    have q:=uh HQK
    rw[List.take_of_length_le (Nat.le_of_eq (uh HLN)),uh HST]at q
    exact q
   go_wp2
   go_end0
   exact⟨rfl,uh HF⟩
theorem wl_filters {w0 w:World} {W:Nat} {p:Pkv} {st:Option (List Int)} {m:Nat} (h:WQ w0 w W p st m) (hk:p.kind=10) (ss:List ByteArray) (hS:Txs w0 p.filters.val ss) (hz:∀ k,k < ss.length->(ss.getD k ⟨#[]⟩).size<=4611686018427387904) (hg:Ge2 st) (c:Nat) (hc:70001<=c) (hm:m+ss.length * c<=4611686018427300000) :
  Calls Tryz.prog 43 #[.pointer (some ⟨W,0,none⟩)] w fun e w'=>e=.returned (.tuple #[])/\WQ w0 w' W p.no_filters ((st.bind (sMust (mc ss.length))).bind (sEach sTx ss)) (m+ss.length * c):=by
 obtain⟨ao,cap,hv,⟨hlc,_⟩,hS⟩:=hS
 exact wl_filters_core h hk ss _ rfl ao cap hv hlc hS hz hg c hc hm
theorem wl_codes_core {w0 w:World} {W:Nat} {p:Pkv} {st:Option (List Int)} {m:Nat} (h:WQ w0 w W p st m) (hk:p.kind≠8/\p.kind≠10) (ss:List Int) (len:Nat) (hln:ss.length=len) (ao:Option Addr) (cap:Nat) (hv:p.codes.val=.slice ao len cap) (hlc:len<=cap) (hS:ss=[]\/∃ b off,ao=some ⟨b,off,none⟩/\∀ j,j < ss.length->w0.cell? ⟨b,off+j,none⟩=some (.int .i64 (ss.getD j 0))) (hz:∀ k,k < ss.length->-9223372036854775808<=ss.getD k 0/\ss.getD k 0<=9223372036854775807) (hg:Ge2 st) (c:Nat) (hc:70001<=c) (hm:m+len * c<=4611686018427300000) :
  Calls Tryz.prog 43 #[.pointer (some ⟨W,0,none⟩)] w fun e w'=>e=.returned (.tuple #[])/\WQ w0 w' W p.no_codes ((st.bind (sMust (mc len))).bind (sEach sCode ss)) (m+len * c):=by
 have HG:=zh hg
 have HZ:=zh hz
 clear hz
 have hkc:=h.pk.kind
 have hk8:(p.kind == 8)=false:=beq_false_of_ne hk.1
 have hk10:(p.kind == 10)=false:=beq_false_of_ne hk.2
 have HQ:=zh h
 have HV:=zh hv
 have HS:=zh hS
 have HLN:=zh hln
 have hlen:len<=4611686018427300000:=Nat.le_trans (Nat.le_mul_of_pos_right _ (by omega)) (show len * c<=4611686018427300000 from by omega)
 clear h hg hv hS hln
 go_enter Tryz.func43,Tryz.ntmps43
 go_wp2_with fail
 refine (take_codes_q (uh HQ) _ rfl).mono ?_
 rintro e w1 ⟨rfl,hq1⟩
 rw[uh HV]
 have HQ1:=zh hq1
 clear hq1 HQ HV hkc
 go_wp2_with fail
 refine (mayCount_any _ _).mono ?_
 rintro e w2 ⟨rfl,hw2⟩
 obtain rfl:=hw2.symm
 clear hw2
 go_wp2_with fail
 refine (must_q (uh HQ1) (mc len)).mono ?_
 rintro e w3 ⟨rfl,hq3,-⟩
 have HQ3:=zh hq3
 have HG3:=zh ((uh HG).must (mc len))
 clear hq3 HQ1 HG
 obtain⟨s1,HST⟩:∃ s1,Hid (s1=st.bind (sMust (mc len))):=⟨_,rfl⟩
 rw[<- uh HST]at HQ3 HG3
 go_wp2
 go_loopw [30] (fun i wr=>∃ k:Nat,k<=len/\i=.int .i64 k/\Hid (WQ w0 wr W p.no_codes (s1.bind (sEach sCode (ss.take k))) (m+k * c))/\Hid (Ge2 (s1.bind (sEach sCode (ss.take k))))) (fun i _=>len - (intOf i).toNat)
 case atStart=>exact⟨0,Nat.zero_le _,rfl,by rw[each_nil,Nat.zero_mul];exact HQ3,by rw[each_nil];exact HG3⟩
 case round =>
  obtain⟨k,hk,rfl,HQK,HGK⟩:=hrel
  clear HQ3 HG3
  by_cases hlt:k < len
  ·have hkl:k < ss.length:=by rw[uh HLN];exact hlt
   have HE:=zh (each_snoc sCode 0 s1 ss k hkl)
   have hmk:m+k * c+c<=4611686018427300000:=by
    have:=Nat.mul_le_mul_right c (show k+1<=len from hlt)
    rw[Nat.succ_mul]at this
    omega
   have HMS:Hid (m+k * c+c=m+(k+1) * c):=by show _=_;rw[Nat.succ_mul];omega
   obtain⟨b,off,rfl,hcl⟩:∃ b off,ao=some ⟨b,off,none⟩/\∀ j,j < ss.length->w0.cell? ⟨b,off+j,none⟩=some (.int .i64 (ss.getD j 0)):=by
    rcases uh HS with e | k
    ·rw[e]at hkl;simp at hkl
    ·exact k
   have hb:=hcl k hkl
   have hB:=(uh HQK).bel
   have e0:=(hB.cell (cell_lt hb)).trans hb
   have hzz:=(uh HZ) k hkl
   generalize ss.getD k 0=sv at e0 hzz HE hb
   clear hcl hb hB
   generalize m+k * c=mk at HQK hmk HMS
   go_wp2_with fail
   refine (one_q (uh HQK) sv hzz (by omega)).mono ?_
   rintro e w5 ⟨rfl,hq5,-⟩
   have HQ5:=zh (hq5.mono (show _<=mk+c from by omega))
   clear hq5 HQK e0
   go_wp2
   go_roundw
   case rel=>exact⟨k+1,by omega,by go_num,by rw[uh HE,<- uh HMS];exact HQ5,by rw[uh HE];exact (uh HGK).add _ _⟩
   case measure=>simp[intOf];omega
  ·obtain rfl:k=len:=by omega
   have HF:Hid (WQ w0 wr W p.no_codes ((st.bind (sMust (mc k))).bind (sEach sCode ss)) (m+k * c)):=by
    have q:=uh HQK
    rw[List.take_of_length_le (Nat.le_of_eq (uh HLN)),uh HST]at q
    exact q
   go_wp2
   go_end0
   exact⟨rfl,uh HF⟩
theorem wl_codes {w0 w:World} {W:Nat} {p:Pkv} {st:Option (List Int)} {m:Nat} (h:WQ w0 w W p st m) (hk:p.kind≠8/\p.kind≠10) (ss:List Int) (hS:Nms w0 p.codes.val ss) (hz:∀ k,k < ss.length->-9223372036854775808<=ss.getD k 0/\ss.getD k 0<=9223372036854775807) (hg:Ge2 st) (c:Nat) (hc:70001<=c) (hm:m+ss.length * c<=4611686018427300000) :
  Calls Tryz.prog 43 #[.pointer (some ⟨W,0,none⟩)] w fun e w'=>e=.returned (.tuple #[])/\WQ w0 w' W p.no_codes ((st.bind (sMust (mc ss.length))).bind (sEach sCode ss)) (m+ss.length * c):=by
 obtain⟨ao,cap,hv,⟨hlc,_⟩,hS⟩:=hS
 exact wl_codes_core h hk ss _ rfl ao cap hv hlc hS hz hg c hc hm
def sWill (u:Wl) (t:List Int):Option (List Int):=((sAdd (okP 16 u.props) (pbs u.props) t).bind (sAdd (okT u.topic) (tx u.topic))).bind (sAdd (okB u.payload) (tx u.payload))
def sPass (s:ByteArray):List Int->Option (List Int):=sAdd (okB s) (tx s)
abbrev mqtt:ByteArray:=⟨#[77,81,84,84]⟩
def sCon0 (kind fl keep:Int) (ok:Bool) (l:List Pr) (client:ByteArray) (t:List Int):Option (List Int) :=
 ((((((sMust ok t).bind (sAdd (okT mqtt) (tx mqtt))).bind (sAdd (in8 5) [5 % 256])).bind (sAdd (in8 fl) [fl % 256])).bind (sAdd (in16 keep) (b2 keep))).bind (sAdd (okP kind l) (pbs l))).bind (sAdd (okT client) (tx client))
def sConn (kind fl keep:Int) (ok:Bool) (l:List Pr) (client:ByteArray) (ws:List Wl) (us ps:List ByteArray) (t:List Int):Option (List Int) :=
 (((sCon0 kind fl keep ok l client t).bind (sEach sWill ws)).bind (sEach sTx us)).bind (sEach sPass ps)
theorem Ge2.of_add (st:Option (List Int)) (c:Bool) {ys:List Int} (h:2<=ys.length):Ge2 (st.bind (sAdd c ys)):=fun l e=>by
 cases st with
 | none=>cases e
 | some t =>
  cases c
  ·cases e
  ·cases e
   rw[List.length_append]
   omega
theorem Ge2.will {st:Option (List Int)} (h:Ge2 st) (u:Wl):Ge2 (st.bind (sWill u)):=fun l e =>
 (((h.add (okP 16 u.props) (pbs u.props)).add (okT u.topic) (tx u.topic)).add (okB u.payload) (tx u.payload)) l (by rw[<- e];cases st <;> rfl)
def WlOk (u:Wl):Prop:=u.topic.size<=4611686018427387904/\u.props.length<=4398046511104/\Go.Proofs.YtccnjdgaldbgnaaGreatDoor.Small u.props
theorem conn_any {w0 w:World} {W:Nat} {p:Pkv} (h:WQ w0 w W p (some []) 0) (vs:List Wv) (hW:Rw w0 p.wills 5 (wcs vs)) (l:List Pr) (hP:Prp w0 p.props.val l) (hmx:l.length<=4398046511104) (hsm:Go.Proofs.YtccnjdgaldbgnaaGreatDoor.Small l) (hcl:p.client.size<=4611686018427387904) (hkp:-9223372036854775808<=p.keep/\p.keep<=9223372036854775807)
  (hun:p.user.n<=maxLen) (hpn:p.pass.n<=maxLen) (hfl:-9223372036854775808<=cfl p.user.n p.pass.n p.clean vs/\cfl p.user.n p.pass.n p.clean vs<=9223372036854775807)
  (ws:List Wl) (wn:Nat) (hwn:ws.length=wn) (wo:Option Addr) (wc:Nat) (hwv:p.wills.val=.slice wo wn wc) (hWS:ws=[]\/∃ b off,wo=some ⟨b,off,none⟩/\WlAt w0 b off ws) (hWO:∀ k,k < ws.length->WlOk (ws.getD k wl0))
  (us:List ByteArray) (un:Nat) (hus:us.length=un) (uo:Option Addr) (uc:Nat) (huv:p.user.val=.slice uo un uc) (hUS:us=[]\/∃ b off,uo=some ⟨b,off,none⟩/\∀ j,j < us.length->w0.cell? ⟨b,off+j,none⟩=some (.string (us.getD j ⟨#[]⟩))) (hUO:∀ k,k < us.length->(us.getD k ⟨#[]⟩).size<=4611686018427387904)
  (ps:List ByteArray) (pn:Nat) (hps:ps.length=pn) (po:Option Addr) (pc:Nat) (hpv:p.pass.val=.slice po pn pc) (hPS:ps=[]\/∃ b off,po=some ⟨b,off,none⟩/\∀ j,j < ps.length->w0.cell? ⟨b,off+j,none⟩=some (.string (ps.getD j ⟨#[]⟩)))
  (c:Nat) (hc:6000000<=c) (hm:6000000+wn * c+un * c+pn * c<=4611686018427300000) :
  Calls Tryz.prog 35 #[.pointer (some ⟨W,0,none⟩)] w (GPost w0 W p.no_clean.no_keep.no_props.no_client.no_wills.no_user.no_pass (sConn p.kind (cfl p.user.n p.pass.n p.clean vs) p.keep (cok p.user.n p.pass.n vs) l p.client ws us ps []) (6000000+wn * c+un * c+pn * c)):=by
 have HP:=zh hP
 have HSM:=zh hsm
 have HWS:=zh hWS
 have HWO:=zh hWO
 have HUS:=zh hUS
 have HUO:=zh hUO
 have HPS:=zh hPS
 have HWN:=zh hwn
 have HUN:=zh hus
 have HPN:=zh hps
 have HWV:=zh hwv
 have HUV:=zh huv
 have HPV:=zh hpv
 have HFLR:=zh hfl
 have HQ:=zh h
 clear h hP hsm hWS hWO hUS hUO hPS hwn hus hps hwv huv hpv
 have HRW:=zh hW
 clear hW
 go_enter Tryz.func35,Tryz.ntmps35
 go_upto_region 1 with fail
 iterate 7 go_step
 refine wpList_load_mid rfl 45 _ rfl W 0 rfl p.cells _ (uh HQ).pk.range Tryz.underlying45 rfl packet_size ?_
 simp only[Act.put,List.setIfInBounds_toArray,List.set_cons_zero,List.set_cons_succ]
 go_wp2_with fail
 refine (connectFlags_any p vs w ((uh HRW).below (uh HQ).bel) hun hpn).mono ?_
 rintro e w1 ⟨rfl,hb1⟩
 have HQ1:=zh ((uh HQ).below hb1)
 clear hb1 HQ HRW
 generalize hfe:cfl p.user.n p.pass.n p.clean vs=fl at HFLR |-
 generalize hoe:cok p.user.n p.pass.n vs=ok
 have HFE:=zh hfe
 have HOE:=zh hoe
 clear hfe hoe
 go_wp2_with fail
 refine (must_q (uh HQ1) ok).mono ?_
 rintro e w2 ⟨rfl,hq2,-⟩
 have d1:=hq2.pk.clean
 have d2:=hq2.pk.clean_f
 have HQ2:=zh hq2.no_clean
 clear hq2 HQ1
 go_upto_region 4 with fail
 generalize w2.setCell ⟨W,9,none⟩ (.bool false)=w3 at HQ2 |-
 clear d1 d2
 go_wp2_with fail
 refine (text_q (uh HQ2) mqtt (by decide) (fun l e=>by cases ok <;> cases e;simp) (by omega)).mono ?_
 rintro e w4 ⟨rfl,hq4,-⟩
 have HG4:=zh (Ge2.of_add ((some []).bind (sMust ok)) (okT mqtt) (show 2<=(tx mqtt).length from by rw[tx_length];omega))
 have HQ4:=zh hq4
 obtain⟨s4,HS4⟩:∃ s4,Hid (s4=((some []).bind (sMust ok)).bind (sAdd (okT mqtt) (tx mqtt))):=⟨_,rfl⟩
 rw[<- uh HS4]at HG4 HQ4
 clear hq4 HQ2
 go_wp2_with fail
 refine (one_q (uh HQ4) 5 (by omega) (by omega)).mono ?_
 rintro e w5 ⟨rfl,hq5,-⟩
 have HG5:=zh ((uh HG4).add (in8 5) [5 % 256])
 have HQ5:=zh hq5
 clear hq5 HQ4 HG4
 go_wp2_with fail
 refine (one_q (uh HQ5) fl (uh HFLR) (by omega)).mono ?_
 rintro e w6 ⟨rfl,hq6,-⟩
 have HG6:=zh ((uh HG5).add (in8 fl) [fl % 256])
 have HQ6:=zh hq6
 clear hq6 HQ5 HG5
 go_wp2_with fail
 refine (take_keep_q (uh HQ6) p.keep rfl).mono ?_
 rintro e w7 ⟨rfl,hq7⟩
 have HQ7:=zh hq7
 clear hq7 HQ6
 go_wp2_with fail
 refine (two_q (uh HQ7) p.keep hkp (by omega)).mono ?_
 rintro e w8 ⟨rfl,hq8,-⟩
 have HG8:=zh ((uh HG6).add (in16 p.keep) (b2 p.keep))
 have HQ8:=zh hq8
 obtain⟨s8,HS8⟩:∃ s8,Hid (s8=((s4.bind (sAdd (in8 5) [5 % 256])).bind (sAdd (in8 fl) [fl % 256])).bind (sAdd (in16 p.keep) (b2 p.keep))):=⟨_,rfl⟩
 rw[<- uh HS8]at HG8 HQ8
 clear hq8 HQ7 HG6
 go_wp2_with fail
 have HQd:=zh ((uh HQ8).below (below_drewN (Below.refl _ _) 1))
 clear HQ8
 refine wp_region_noPanic ?_
 refine wp_region_held_drew (S:=fun w'=>w'.cell? ⟨W,0,none⟩=some (.int .i64 p.kind)) (by kernel_rfl) (uh HQd).pk.kind (fun hHeld=>?_)
 refine rtk 0 (h:=?_)
 refine rtk 1 (h:=?_)
 refine rtk 2 (h:=?_)
 refine rtk 3 (h:=?_)
 refine rtk 5 (h:=?_)
 refine rtk 6 (h:=?_)
 refine rtk 7 (h:=?_)
 refine rtk 8 (h:=?_)
 refine rcl 4 (h:=fun K hK=>?_)
 go_simp
 refine (take_props_q (uh HQd) p.props rfl).mono ?_
 rintro e wp1 ⟨rfl,hqp⟩
 have HQp:=zh hqp
 clear hqp HQd
 refine hK.out _ _ (uh HQp).pk.kind (fun hHeld=>?_)
 clear hK K
 refine rcl 9 (h:=fun K hK=>?_)
 go_simp
 refine (props_q (uh HQp) p.props.val l p.kind ((uh HP).below (uh HQp).bel) hmx (uh HSM) (uh HG8).one (by omega)).mono ?_
 rintro e wp2 ⟨rfl,hqp,-⟩
 have HQ9:=zh hqp
 clear hqp HQp
 refine hK.out _ _ (uh HQ9).pk.kind (fun hHeld=>?_)
 clear hK K
 refine wpAnyH_done (by kernel_rfl) ?_ _
 refine NoPanic.normal ?_
 have HG9:=zh ((uh HG8).add (okP p.kind l) (pbs l))
 clear HG8
 go_wp2_with fail
 refine (take_client_q (uh HQ9) p.client rfl).mono ?_
 rintro e w10 ⟨rfl,hq10⟩
 have HQ10:=zh hq10
 clear hq10 HQ9
 go_wp2_with fail
 refine (text_q (uh HQ10) p.client hcl (uh HG9).one (by omega)).mono ?_
 rintro e w11 ⟨rfl,hq11,-⟩
 have HG11:=zh ((uh HG9).add (okT p.client) (tx p.client))
 have HQ11:=zh (hq11.mono (show _<=6000000 from by omega))
 obtain⟨s11,HS11⟩:∃ s11,Hid (s11=(s8.bind (sAdd (okP p.kind l) (pbs l))).bind (sAdd (okT p.client) (tx p.client))):=⟨_,rfl⟩
 rw[<- uh HS11]at HG11 HQ11
 clear hq11 HQ10 HG9
 go_wp2_with fail
 refine (take_wills_q (uh HQ11) p.wills rfl).mono ?_
 rintro e w12 ⟨rfl,hq12⟩
 rw[uh HWV]
 have HQ12:=zh hq12
 clear hq12 HQ11 HWV
 have hwl:wn<=4611686018427300000:=Nat.le_trans (Nat.le_mul_of_pos_right _ (by omega)) (show wn * c<=4611686018427300000 from by omega)
 have hul:un<=4611686018427300000:=Nat.le_trans (Nat.le_mul_of_pos_right _ (by omega)) (show un * c<=4611686018427300000 from by omega)
 have hpl:pn<=4611686018427300000:=Nat.le_trans (Nat.le_mul_of_pos_right _ (by omega)) (show pn * c<=4611686018427300000 from by omega)
 go_wp2
 go_loopw [61] (fun i wr=>∃ k:Nat,k<=wn/\i=.int .i64 k/\Hid (WQ w0 wr W p.no_clean.no_keep.no_props.no_client.no_wills (s11.bind (sEach sWill (ws.take k))) (6000000+k * c))/\Hid (Ge2 (s11.bind (sEach sWill (ws.take k))))) (fun i _=>wn - (intOf i).toNat)
 case atStart=>exact⟨0,Nat.zero_le _,rfl,by rw[each_nil,Nat.zero_mul];exact HQ12,by rw[each_nil];exact HG11⟩
 case round =>
  obtain⟨k,hk,rfl,HQK,HGK⟩:=hrel
  clear HQ12 HG11
  by_cases hlt:k < wn
  ·have hkl:k < ws.length:=by rw[uh HWN];exact hlt
   have HE:=zh (each_snoc sWill wl0 s11 ws k hkl)
   have hmk:6000000+k * c+c<=4611686018427300000:=by
    have:=Nat.mul_le_mul_right c (show k+1<=wn from hlt)
    rw[Nat.succ_mul]at this
    omega
   have HMS:Hid (6000000+k * c+c=6000000+(k+1) * c):=by show _=_;rw[Nat.succ_mul];omega
   obtain⟨b,off,rfl,hcl⟩:∃ b off,wo=some ⟨b,off,none⟩/\WlAt w0 b off ws:=by
    rcases uh HWS with e | k
    ·rw[e]at hkl;simp at hkl
    ·exact k
   have hb:=hcl k hkl
   have hB:=(uh HQK).bel
   obtain⟨ao,n,cap,⟨d0,d1,d2,d3,d4⟩,hpr,-⟩:=hb
   have hbl:b < w0.heap.size:=cell_lt d0
   have e0:=(hB.cell hbl).trans d0
   have e1:=(hB.cell hbl).trans d1
   have e2:=(hB.cell hbl).trans d2
   have e3:=(hB.cell hbl).trans d3
   have e4:=(hB.cell hbl).trans d4
   have hWk:=(uh HWO) k hkl
   have HPR:=zh hpr
   clear d0 d1 d2 d3 d4 hpr
   generalize ws.getD k wl0=u at e0 e1 e2 e3 e4 hWk HE HPR
   obtain⟨hz1,hz2,hz3⟩:=hWk
   have HZ3:=zh hz3
   have hWlt:=(uh HQK).lt
   clear hz3
   clear hcl hB
   generalize 6000000+k * c=mk at HQK hmk HMS
   go_wp2_with fail
   refine (props_q ((uh HQK).below (bal _ _)) (.slice ao n cap) u.props 16 ((uh HPR).below ((uh HQK).below (bal _ _)).bel) hz2 (uh HZ3) (uh HGK).one (by omega)).mono ?_
   rintro e x1 ⟨rfl,hq1,hf1⟩
   have HN1:=zh (hf1.cell (heap_alloc_new _ _) (by omega) (by decide))
   have HR1:=zh hq1
   have f0:x1.cell? ⟨wr.heap.size,0,none⟩=some (.string u.topic):=by unfold World.cell?;dsimp only;rw[uh HN1];rfl
   clear hq1 hf1 HQK e0 e1 e2 e3 e4
   go_wp2_with fail
   refine (text_q (uh HR1) u.topic hz1 ((uh HGK).add _ _).one (by omega)).mono ?_
   rintro e x2 ⟨rfl,hq2,hf2⟩
   have HN2:=zh (hf2.cell (uh HN1) (by omega) (by decide))
   have HR2:=zh hq2
   have f1:x2.cell? ⟨wr.heap.size,1,none⟩=some (.string u.payload):=by unfold World.cell?;dsimp only;rw[uh HN2];rfl
   clear hq2 hf2 HR1 HN1 f0
   go_wp2_with fail
   refine (bin_q (uh HR2) u.payload (((uh HGK).add _ _).add _ _).one (by omega)).mono ?_
   rintro e x3 ⟨rfl,hq3,-⟩
   have HQN:Hid (WQ w0 x3 W p.no_clean.no_keep.no_props.no_client.no_wills ((s11.bind (sEach sWill (ws.take k))).bind (sWill u)) (mk+c)):=by
    have q:=hq3.mono (show _<=mk+c from by omega)
    rw[show ((((s11.bind (sEach sWill (ws.take k))).bind (sAdd (okP 16 u.props) (pbs u.props))).bind (sAdd (okT u.topic) (tx u.topic))).bind (sAdd (okB u.payload) (tx u.payload)))=(s11.bind (sEach sWill (ws.take k))).bind (sWill u) from by cases s11.bind (sEach sWill (ws.take k)) <;> rfl]at q
    exact q
   clear hq3 HR2 HN2 f1
   go_wp2
   go_roundw
   case rel=>exact⟨k+1,by omega,by go_num,by rw[uh HE,<- uh HMS];exact HQN,by rw[uh HE];exact (uh HGK).will _⟩
   case measure=>simp[intOf];omega
  ·obtain rfl:wn=k:=by omega
   have HQ13:Hid (WQ w0 wr W p.no_clean.no_keep.no_props.no_client.no_wills (s11.bind (sEach sWill ws)) (6000000+wn * c)):=by
    have q:=uh HQK
    rw[List.take_of_length_le (Nat.le_of_eq (uh HWN))]at q
    exact q
   have HG13:Hid (Ge2 (s11.bind (sEach sWill ws))):=by
    have q:=uh HGK
    rw[List.take_of_length_le (Nat.le_of_eq (uh HWN))]at q
    exact q
   clear HQK HGK
   obtain⟨s13,HS13⟩:∃ s13,Hid (s13=s11.bind (sEach sWill ws)):=⟨_,rfl⟩
   rw[<- uh HS13]at HQ13 HG13
   go_wp2_with fail
   refine (take_user_q (uh HQ13) p.user rfl).mono ?_
   rintro e wq ⟨rfl,hqq⟩
   rw[uh HUV]
   clear HQ13 HUV
   have HQ13:=zh hqq
   clear hqq
   go_wp2
   go_loopw [83] (fun i wr=>∃ k:Nat,k<=un/\i=.int .i64 k/\Hid (WQ w0 wr W p.no_clean.no_keep.no_props.no_client.no_wills.no_user (s13.bind (sEach sTx (us.take k))) (6000000+wn * c+k * c))/\Hid (Ge2 (s13.bind (sEach sTx (us.take k))))) (fun i _=>un - (intOf i).toNat)
   case atStart=>exact⟨0,Nat.zero_le _,rfl,by rw[each_nil,Nat.zero_mul];exact HQ13,by rw[each_nil];exact HG13⟩
   case round =>
    obtain⟨k,hk,rfl,HQK,HGK⟩:=hrel
    clear HQ13 HG13
    by_cases hlt:k < un
    ·have hkl:k < us.length:=by rw[uh HUN];exact hlt
     have HE:=zh (each_snoc sTx ⟨#[]⟩ s13 us k hkl)
     have hmk:6000000+wn * c+k * c+c<=4611686018427300000:=by
      have:=Nat.mul_le_mul_right c (show k+1<=un from hlt)
      rw[Nat.succ_mul]at this
      omega
     have HMS:Hid (6000000+wn * c+k * c+c=6000000+wn * c+(k+1) * c):=by show _=_;rw[Nat.succ_mul];omega
     obtain⟨b,off,rfl,hcl⟩:∃ b off,uo=some ⟨b,off,none⟩/\∀ j,j < us.length->w0.cell? ⟨b,off+j,none⟩=some (.string (us.getD j ⟨#[]⟩)):=by
      rcases uh HUS with e | k
      ·rw[e]at hkl;simp at hkl
      ·exact k
     have hb:=hcl k hkl
     have hB:=(uh HQK).bel
     have e0:=(hB.cell (cell_lt hb)).trans hb
     have hzz:=(uh HUO) k hkl
     generalize us.getD k ⟨#[]⟩=sv at e0 hzz HE hb
     clear hcl hB
     generalize 6000000+wn * c+k * c=mk at HQK hmk HMS
     go_wp2_with fail
     refine (text_q (uh HQK) sv hzz (uh HGK).one (by omega)).mono ?_
     rintro e wn ⟨rfl,hqn,-⟩
     have HQN:=zh (hqn.mono (show _<=mk+c from by omega))
     clear hqn HQK e0 hb
     go_wp2
     go_roundw
     case rel=>exact⟨k+1,by omega,by go_num,by rw[uh HE,<- uh HMS];exact HQN,by rw[uh HE];exact (uh HGK).add _ _⟩
     case measure=>simp[intOf];omega
    ·obtain rfl:un=k:=by omega
     have HQ14:Hid (WQ w0 wr W p.no_clean.no_keep.no_props.no_client.no_wills.no_user (s13.bind (sEach sTx us)) (6000000+wn * c+un * c)):=by
      have q:=uh HQK
      rw[List.take_of_length_le (Nat.le_of_eq (uh HUN))]at q
      exact q
     have HG14:Hid (Ge2 (s13.bind (sEach sTx us))):=by
      have q:=uh HGK
      rw[List.take_of_length_le (Nat.le_of_eq (uh HUN))]at q
      exact q
     clear HQK HGK
     obtain⟨s14,HS14⟩:∃ s14,Hid (s14=s13.bind (sEach sTx us)):=⟨_,rfl⟩
     rw[<- uh HS14]at HQ14 HG14
     go_wp2_with fail
     refine (take_pass_q (uh HQ14) p.pass rfl).mono ?_
     rintro e wq ⟨rfl,hqq⟩
     rw[uh HPV]
     clear HQ14 HPV
     have HQ14:=zh hqq
     clear hqq
     go_wp2
     go_loopw [96] (fun i wr=>∃ k:Nat,k<=pn/\i=.int .i64 k/\Hid (WQ w0 wr W p.no_clean.no_keep.no_props.no_client.no_wills.no_user.no_pass (s14.bind (sEach sPass (ps.take k))) (6000000+wn * c+un * c+k * c))/\Hid (Ge2 (s14.bind (sEach sPass (ps.take k))))) (fun i _=>pn - (intOf i).toNat)
     case atStart=>exact⟨0,Nat.zero_le _,rfl,by rw[each_nil,Nat.zero_mul];exact HQ14,by rw[each_nil];exact HG14⟩
     case round =>
      obtain⟨k,hk,rfl,HQK,HGK⟩:=hrel
      clear HQ14 HG14
      by_cases hlt:k < pn
      ·have hkl:k < ps.length:=by rw[uh HPN];exact hlt
       have HE:=zh (each_snoc sPass ⟨#[]⟩ s14 ps k hkl)
       have hmk:6000000+wn * c+un * c+k * c+c<=4611686018427300000:=by
        have:=Nat.mul_le_mul_right c (show k+1<=pn from hlt)
        rw[Nat.succ_mul]at this
        omega
       have HMS:Hid (6000000+wn * c+un * c+k * c+c=6000000+wn * c+un * c+(k+1) * c):=by show _=_;rw[Nat.succ_mul];omega
       obtain⟨b,off,rfl,hcl⟩:∃ b off,po=some ⟨b,off,none⟩/\∀ j,j < ps.length->w0.cell? ⟨b,off+j,none⟩=some (.string (ps.getD j ⟨#[]⟩)):=by
        rcases uh HPS with e | k
        ·rw[e]at hkl;simp at hkl
        ·exact k
       have hb:=hcl k hkl
       have hB:=(uh HQK).bel
       have e0:=(hB.cell (cell_lt hb)).trans hb
       generalize ps.getD k ⟨#[]⟩=sv at e0 HE hb
       clear hcl hB
       generalize 6000000+wn * c+un * c+k * c=mk at HQK hmk HMS
       go_wp2_with fail
       refine (bin_q (uh HQK) sv (uh HGK).one (by omega)).mono ?_
       rintro e wn ⟨rfl,hqn,-⟩
       have HQN:=zh (hqn.mono (show _<=mk+c from by omega))
       clear hqn HQK e0 hb
       go_wp2
       go_roundw
       case rel=>exact⟨k+1,by omega,by go_num,by rw[uh HE,<- uh HMS];exact HQN,by rw[uh HE];exact (uh HGK).add _ _⟩
       case measure=>simp[intOf];omega
      ·obtain rfl:pn=k:=by omega
       have HQ15:Hid (WQ w0 wr W p.no_clean.no_keep.no_props.no_client.no_wills.no_user.no_pass (s14.bind (sEach sPass ps)) (6000000+wn * c+un * c+pn * c)):=by
        have q:=uh HQK
        rw[List.take_of_length_le (Nat.le_of_eq (uh HPN))]at q
        exact q
       have HG15:Hid (Ge2 (s14.bind (sEach sPass ps))):=by
        have q:=uh HGK
        rw[List.take_of_length_le (Nat.le_of_eq (uh HPN))]at q
        exact q
       clear HQK HGK
       have HF:Hid (GPost w0 W p.no_clean.no_keep.no_props.no_client.no_wills.no_user.no_pass (sConn p.kind fl p.keep ok l p.client ws us ps []) (6000000+wn * c+un * c+pn * c) (.returned (.tuple #[])) wr):=by
        have e:sConn p.kind fl p.keep ok l p.client ws us ps []=s14.bind (sEach sPass ps):=by
         rw[uh HS14,uh HS13,uh HS11,uh HS8,uh HS4]
         rfl
        rw[e]
        exact⟨rfl,(uh HQ15).wf⟩
       go_wp2
       go_end0
       rw[uh HFE,uh HOE]
       exact uh HF
end Go.Proofs.YtccnjdgaldbgnaaGreatDoor.K
