/- Proved here: helpers, one text behind the other. -/
import Derived.Test.YtdkmmmjjdlnnoaaGreatDoorZC26
import Derived.Test.YtdkmmmjjdlnnoaaGreatDoorZC27
import Derived.Test.YtdkmmmjjdlnnoaaGreatDoorZK3R2
import Derived.Test.YtdkmmmjjdlnnoaaGreatDoorZC29
import Derived.Test.YtdkmmmjjdlnnoaaGreatDoorZC32
import Derived.Deep.Cut
import Derived.Test.YtdkmmmjjdlnnoaaGreatDoorZC33
import Derived.Test.YtdkmmmjjdlnnoaaGreatDoorZC38
import Derived.Test.YtdkmmmjjdlnnoaaGreatDoorZC6
set_option maxHeartbeats 20000000
namespace Go.Proofs.YtdkmmmjjdlnnoaaGreatDoor.K
open Go.RowKit
set_option maxRecDepth 100000
theorem pk_pub_pos {w0 w:World} {W:Nat} {p:Pkv} (h:WQ w0 w W p (some []) 0) (hf:Fit p) (l:List Pr) (hP:Prp w0 p.props.val l) (hmx:l.length<=4398046511104) (hsm:Go.Proofs.YtdkmmmjjdlnnoaaGreatDoor.Small l) (hto:p.topic.size<=4611686018427387904) (hpy:p.payload.size<=1073741824) (hq:0 < p.qos) (hk:p.kind=3) :
  Calls Tryz.prog 36 #[.pointer (some ⟨W,0,none⟩)] w (GPost w0 W p.no_dup.no_retain.no_topic.no_qos.no_id.no_props.no_payload ((sPub p.topic p.qos p.id p.kind l p.payload []).bind (sMust (emp (p.no_dup.no_retain.no_topic.no_qos.no_id.no_props.no_payload)))) (2000000000)):=by
 have hkc:=h.pk.kind
 have HP:=zh hP
 have HSM:=zh hsm
 clear hP hsm
 have HHQ:=zh hq
 clear hq
 have HQ:=zh h
 rw[hk]at hkc
 have HK8:=zh hk
 clear h hk
 go_enter Tryz.func36,Tryz.ntmps36
 go_wp2_with fail
 refine (pub_pos (uh HQ) l (uh HP) hmx (uh HSM) hto hpy hf.nums.2.1 (uh HHQ)).mono ?_
 rintro e w1 ⟨rfl,hq1⟩
 have HF:=zh hq1
 clear hq1 HQ hkc
 go_upto_region 25 with fail
 iterate 13 go_step
 refine wpList_load_mid rfl 31 _ rfl W 0 rfl (p.no_dup.no_retain.no_topic.no_qos.no_id.no_props.no_payload).cells _ (uh HF).pk.range Tryz.underlying31 rfl packet_size ?_
 simp only[Act.put,List.setIfInBounds_toArray,List.set_cons_zero,List.set_cons_succ]
 go_wp2_with fail
 refine (empty_any (p.no_dup.no_retain.no_topic.no_qos.no_id.no_props.no_payload) hf.no_dup.no_retain.no_topic.no_qos.no_id.no_props.no_payload _).mono ?_
 rintro e x1 ⟨rfl,hx1⟩
 have HFa:=zh ((uh HF).below hx1)
 clear hx1 HF
 go_wp2_with fail
 refine (must_f (uh HFa) (emp (p.no_dup.no_retain.no_topic.no_qos.no_id.no_props.no_payload))).mono ?_
 rintro e x2 ⟨rfl,hx2⟩
 have HFb:=zh hx2
 clear hx2 HFa
 go_wp2
 go_end0
 exact⟨rfl,uh HFb⟩
theorem pk_pub_zero {w0 w:World} {W:Nat} {p:Pkv} (h:WQ w0 w W p (some []) 0) (hf:Fit p) (l:List Pr) (hP:Prp w0 p.props.val l) (hmx:l.length<=4398046511104) (hsm:Go.Proofs.YtdkmmmjjdlnnoaaGreatDoor.Small l) (hto:p.topic.size<=4611686018427387904) (hpy:p.payload.size<=1073741824) (hq:¬ 0 < p.qos) (hk:p.kind=3) :
  Calls Tryz.prog 36 #[.pointer (some ⟨W,0,none⟩)] w (GPost w0 W p.no_dup.no_retain.no_topic.no_qos.no_props.no_payload ((sPub p.topic p.qos p.id p.kind l p.payload []).bind (sMust (emp (p.no_dup.no_retain.no_topic.no_qos.no_props.no_payload)))) (2000000000)):=by
 have hkc:=h.pk.kind
 have HP:=zh hP
 have HSM:=zh hsm
 clear hP hsm
 have HHQ:=zh hq
 clear hq
 have HQ:=zh h
 rw[hk]at hkc
 have HK8:=zh hk
 clear h hk
 go_enter Tryz.func36,Tryz.ntmps36
 go_wp2_with fail
 refine (pub_zero (uh HQ) l (uh HP) hmx (uh HSM) hto hpy (show ¬ 0 < p.qos from by have:=uh HHQ;omega)).mono ?_
 rintro e w1 ⟨rfl,hq1⟩
 have HF:=zh hq1
 clear hq1 HQ hkc
 go_upto_region 25 with fail
 iterate 13 go_step
 refine wpList_load_mid rfl 31 _ rfl W 0 rfl (p.no_dup.no_retain.no_topic.no_qos.no_props.no_payload).cells _ (uh HF).pk.range Tryz.underlying31 rfl packet_size ?_
 simp only[Act.put,List.setIfInBounds_toArray,List.set_cons_zero,List.set_cons_succ]
 go_wp2_with fail
 refine (empty_any (p.no_dup.no_retain.no_topic.no_qos.no_props.no_payload) hf.no_dup.no_retain.no_topic.no_qos.no_props.no_payload _).mono ?_
 rintro e x1 ⟨rfl,hx1⟩
 have HFa:=zh ((uh HF).below hx1)
 clear hx1 HF
 go_wp2_with fail
 refine (must_f (uh HFa) (emp (p.no_dup.no_retain.no_topic.no_qos.no_props.no_payload))).mono ?_
 rintro e x2 ⟨rfl,hx2⟩
 have HFb:=zh hx2
 clear hx2 HFa
 go_wp2
 go_end0
 exact⟨rfl,uh HFb⟩
theorem gtext_any (s:ByteArray) (c:Bool) (hc:okT s=c) (w:World) (hs:s.size<=4611686018427387904):Calls Tryz.prog 74 #[.string s] w fun e w'=>e=.returned (.bool c)/\Below w.heap.size w w':=by
 subst hc
 unfold okT
 have HR:=zh (rcheck_any s w hs)
 by_cases h:chk (sb s)=0
 ·rw[h]at HR |-
  go_enter Tryz.func74,Tryz.ntmps74
  go_wp2_with fail
  refine (uh HR).mono ?_
  rintro e w1 ⟨rfl,hb⟩
  have HB:=zh hb
  clear hb
  go_wp2
  go_ret
  exact⟨rfl,uh HB⟩
 ·rw[decide_eq_false h]
  generalize chk (sb s)=n at h HR
  have hn:(n == 0)=false:=beq_false_of_ne h
  go_enter Tryz.func74,Tryz.ntmps74
  go_wp2_with fail
  refine (uh HR).mono ?_
  rintro e w1 ⟨rfl,hb⟩
  have HB:=zh hb
  clear hb
  go_wp2
  go_ret
  exact⟨rfl,uh HB⟩
theorem gid_any (n:Int) (w:World):Calls Tryz.prog 77 #[.int .i64 n] w fun e w'=>e=.returned (.bool (idO n))/\w'=w:=by
 unfold idO
 by_cases h:1<=n
 ·rw[decide_eq_true h]
  go_enter Tryz.func77,Tryz.ntmps77
  go_wp2
  go_ret
  exact⟨rfl,rfl⟩
 ·rw[decide_eq_false h]
  go_enter Tryz.func77,Tryz.ntmps77
  go_wp2
  go_ret
  exact⟨rfl,rfl⟩
def Pkv.wi_dup (p:Pkv) (x:Bool):Pkv:={ p with dup:=x }
theorem MS.wi_dup {w0 w:World} {B X:Nat} {q x:Pkv} (h:MS w0 w B X q x) (y:Bool):MS w0 (w.setCell ⟨X,1,none⟩ (.bool y)) B X q (x.wi_dup y) :=
 h.set (x.wi_dup y) 1 (by omega) (fun j hj=>by unfold Pkv.wi_dup Pkv.cell;split <;> first | rfl | exact absurd rfl hj)
def Pkv.wi_qos (p:Pkv) (x:Int):Pkv:={ p with qos:=x }
theorem MS.wi_qos {w0 w:World} {B X:Nat} {q x:Pkv} (h:MS w0 w B X q x) (y:Int):MS w0 (w.setCell ⟨X,2,none⟩ (.int .i64 y)) B X q (x.wi_qos y) :=
 h.set (x.wi_qos y) 2 (by omega) (fun j hj=>by unfold Pkv.wi_qos Pkv.cell;split <;> first | rfl | exact absurd rfl hj)
def Pkv.wi_retain (p:Pkv) (x:Bool):Pkv:={ p with retain:=x }
theorem MS.wi_retain {w0 w:World} {B X:Nat} {q x:Pkv} (h:MS w0 w B X q x) (y:Bool):MS w0 (w.setCell ⟨X,3,none⟩ (.bool y)) B X q (x.wi_retain y) :=
 h.set (x.wi_retain y) 3 (by omega) (fun j hj=>by unfold Pkv.wi_retain Pkv.cell;split <;> first | rfl | exact absurd rfl hj)
def Pkv.wi_topic (p:Pkv) (x:ByteArray):Pkv:={ p with topic:=x }
theorem MS.wi_topic {w0 w:World} {B X:Nat} {q x:Pkv} (h:MS w0 w B X q x) (y:ByteArray):MS w0 (w.setCell ⟨X,4,none⟩ (.string y)) B X q (x.wi_topic y) :=
 h.set (x.wi_topic y) 4 (by omega) (fun j hj=>by unfold Pkv.wi_topic Pkv.cell;split <;> first | rfl | exact absurd rfl hj)
def Pkv.wi_id (p:Pkv) (x:Int):Pkv:={ p with id:=x }
theorem MS.wi_id {w0 w:World} {B X:Nat} {q x:Pkv} (h:MS w0 w B X q x) (y:Int):MS w0 (w.setCell ⟨X,5,none⟩ (.int .i64 y)) B X q (x.wi_id y) :=
 h.set (x.wi_id y) 5 (by omega) (fun j hj=>by unfold Pkv.wi_id Pkv.cell;split <;> first | rfl | exact absurd rfl hj)
def Pkv.wi_payload (p:Pkv) (x:ByteArray):Pkv:={ p with payload:=x }
theorem MS.wi_payload {w0 w:World} {B X:Nat} {q x:Pkv} (h:MS w0 w B X q x) (y:ByteArray):MS w0 (w.setCell ⟨X,6,none⟩ (.string y)) B X q (x.wi_payload y) :=
 h.set (x.wi_payload y) 6 (by omega) (fun j hj=>by unfold Pkv.wi_payload Pkv.cell;split <;> first | rfl | exact absurd rfl hj)
theorem gtwo_any (n:Int) (w:World):Calls Tryz.prog 85 #[.int .i64 n] w fun e w'=>∃ v,e=.returned v/\Hid (Rwb w' w.heap.size v (b2 n))/\Below w.heap.size w w':=by
 have HR:Hid (Rwb (w.alloc (.cells #[.int .u8 (n / 256 % 256),.int .u8 (n % 256)] 5)) w.heap.size (.slice (some ⟨w.heap.size,0,none⟩) 2 2) (b2 n)):=rwb_new w (b2 n) (by simp) (by simp) (rng2 (by omega) (by omega))
 have HB:Hid (Below w.heap.size w (w.alloc (.cells #[.int .u8 (n / 256 % 256),.int .u8 (n % 256)] 5))):=bal _ _
 go_enter Tryz.func85,Tryz.ntmps85
 go_wp2
 go_ret
 exact⟨_,rfl,HR,uh HB⟩
theorem Pk.grow2 {w w':World} {B:Nat} {q:Pkv} {row:Option Nat} (h:Pk w B q) (hg:w.grownBy w' row) (hr:some B≠row):Pk w' B q:=fun j hj=>by
 have hb:=hg.block B (cell_lt h.kind) hr
 exact⟨(World.cell?_of_block hb).trans (h j hj).1,(World.frozen?_of_block hb).trans (h j hj).2⟩
theorem below_grown {w0 w w':World} {v:Value} {l:List Int} (h:Below w0.heap.size w0 w) (hr:Rwb w (w0.heap.size+1) v l) (hg:w.grownBy w' v.ownBlock):Below w0.heap.size w0 w':=h.grown hg h.size (fun g e=>by have:=owns_blk hr.1 g e;omega)
theorem gb_pub_pos (q:Pkv) (l:List Pr) (w:World) (hP:Prp w q.props.val l) (hok:okP q.kind l=true) (hto:okT q.topic=true) (hpy:q.payload.size<=1073741824) (hq:0 < q.qos) (hk:q.kind=3):Calls Tryz.prog 40 #[q.val] w (GPut (((tx q.topic++b2 q.id)++pbs l)++sb q.payload) w):=by
 obtain⟨hok1,h32⟩:=chkP0 (of_decide_eq_true hok)
 have hple:=pbs_le (of_decide_eq_true hok)
 have HPN:=zh (pk_new w q)
 have HB0:Hid (Below w.heap.size w (w.alloc (.cells q.cells.toArray 31))):=bal _ _
 have HBY:Hid (∀ W,Below w.heap.size w W->Calls Tryz.prog 83 #[.slice q.props.ao l.length q.props.cap] W (PutP (pbs l) W)):=fun W hW=>by
  have k:=rbytes_any q.props.val l q.kind W (hP.below hW) (by omega) hok1
  rw[show q.props.val=.slice q.props.ao q.props.n q.props.cap from rfl,prp_n hP]at k
  exact k
 have HTL:Hid (∀ W,Below w.heap.size w W->Calls Tryz.prog 86 #[.agg q.cells.toArray] W (GPut (gtl q.code l) W)):=fun W hW=>gtail_any q l q.kind W (hP.below hW) hok
 have HQN:=zh (prp_n hP)
 have HKK:=zh hk
 clear hP hok hok1 hk
 go_enter Tryz.func40,Tryz.ntmps40
 go_upto_region 1 with fail
 change Code.wp _ _ _ _ (w.alloc (.cells q.cells.toArray 31))
 have hsz:(w.alloc (.cells q.cells.toArray 31)).heap.size=w.heap.size+1:=by simp
 generalize w.alloc (.cells q.cells.toArray 31)=wa at HPN HB0 hsz |-
 have b0:=(uh HPN).kind
 rw[uh HKK]at b0
 have b4:=(uh HPN).topic
 have hto2:q.topic.size<=65535:=by have:=chk_0 (of_decide_eq_true hto);rw[sb_length]at this;exact this
 have HTR:=zh (tx_range q.topic hto2)
 go_wp2_with fail
 refine (Go.Proofs.YtdkmmmjjdlnnoaaGreatDoor.bin_any q.topic _ hto2).mono ?_
 rintro e w1 ⟨v1,rfl,hown1,hb1⟩
 have HB1:Hid (Below w.heap.size w w1):=bnx2 (uh HB0) hb1
 have HP1:=zh ((uh HPN).below hb1)
 have HR1:Hid (Rwb w1 (w.heap.size+1) v1 (tx q.topic)):=⟨by rw[<- hsz,tx_length];exact uh hown1,uh HTR⟩
 obtain⟨va1,vn1,vc1,rfl⟩:=(uh HR1).form
 clear hown1 hb1 b0 b4 HPN
 obtain⟨L1,HEL1⟩:∃ L:List Int,Hid (L=tx q.topic):=⟨_,rfl⟩
 have nL1:L1.length<=65537:=by rw[uh HEL1];rw[tx_length];omega
 rw[<- uh HEL1]at HR1
 have c2_1:=(uh HP1).qos
 have c5_1:=(uh HP1).id
 have c6_1:=(uh HP1).payload
 go_wp2_with fail
 refine (gtwo_any q.id _).mono ?_
 rintro e w2 ⟨v2,rfl,hr2,hb2⟩
 have HB2:Hid (Below w.heap.size w w2):=bnx2 (uh HB1) hb2
 have HP2:=zh ((uh HP1).below hb2)
 have HR2:=zh ((uh HR1).below hb2)
 have HY2:=zh (uh hr2).byt
 have HG2:=zh (uh hr2).2
 obtain⟨va2,vn2,vc2,rfl⟩:=(uh hr2).form
 clear hr2 hb2 HR1 HB1 HP1 c2_1 c5_1 c6_1
 obtain⟨M2,HEM2⟩:∃ L:List Int,Hid (L=b2 q.id):=⟨_,rfl⟩
 have nM2:M2.length<=2:=by rw[uh HEM2];simp
 rw[<- uh HEM2]at HY2 HG2
 go_wp2_with (first
  | (at_builtin;refine wpList_append_byt _ rfl _ _ rfl (w.heap.size+1) (.slice va1 vn1 vc1) L1.length L1 rfl (uh HR2).1 (.slice va2 vn2 vc2) M2 rfl (uh HY2) (by omega) (cell_lt (uh HP2).kind) ?_)
  | go_in)
 intro v3 w3 hown hg
 have HR3:=zh ((uh HR2).more (uh HG2) (by first | exact hown | (rw[<- List.map_append];exact hown)))
 have HB3:Hid (Below w.heap.size w w3):=below_grown (uh HB2) (uh HR2) hg
 have HP3:=zh ((uh HP2).grow2 hg (uh HR2).off)
 obtain⟨va3,vn3,vc3,rfl⟩:=(uh HR3).form
 clear hown hg HR2 HB2 HP2
 obtain⟨L3,HEL3⟩:∃ L:List Int,Hid (L=L1++M2):=⟨_,rfl⟩
 have nL3:L3.length<=65539:=by rw[uh HEL3];rw[List.length_append];omega
 rw[<- uh HEL3]at HR3
 have c7_3:=(uh HP3).props
 rw[show q.props.val=.slice q.props.ao q.props.n q.props.cap from rfl,uh HQN]at c7_3
 have c6_3:=(uh HP3).payload
 go_wp2_with fail
 refine ((uh HBY) _ (uh HB3)).mono ?_
 rintro e w4 ⟨v4,rfl,hy4,hb4⟩
 have HB4:Hid (Below w.heap.size w w4):=bnx2 (uh HB3) hb4
 have HP4:=zh ((uh HP3).below hb4)
 have HR4:=zh ((uh HR3).below hb4)
 have HG4:=zh (uh hy4).range
 obtain⟨va4,vc4,rfl,-,-⟩:=(uh hy4).form
 clear hb4 HR3 HB3 HP3 c7_3 c6_3
 obtain⟨M4,HEM4⟩:∃ L:List Int,Hid (L=pbs l):=⟨_,rfl⟩
 have nM4:M4.length<=5000000:=by rw[uh HEM4];exact hple
 rw[<- uh HEM4]at hy4 HG4 |-
 go_wp2_with (first
  | (at_builtin;refine wpList_append_byt _ rfl _ _ rfl (w.heap.size+1) (.slice va3 vn3 vc3) L3.length L3 rfl (uh HR4).1 (.slice va4 M4.length vc4) M4 rfl (uh hy4) (by omega) (cell_lt (uh HP4).kind) ?_)
  | go_in)
 intro v5 w5 hown hg
 have HR5:=zh ((uh HR4).more (uh HG4) (by first | exact hown | (rw[<- List.map_append];exact hown)))
 have HB5:Hid (Below w.heap.size w w5):=below_grown (uh HB4) (uh HR4) hg
 have HP5:=zh ((uh HP4).grow2 hg (uh HR4).off)
 obtain⟨va5,vn5,vc5,rfl⟩:=(uh HR5).form
 clear hown hg HR4 HB4 HP4
 obtain⟨L5,HEL5⟩:∃ L:List Int,Hid (L=L3++M4):=⟨_,rfl⟩
 have nL5:L5.length<=5065539:=by rw[uh HEL5];rw[List.length_append];omega
 rw[<- uh HEL5]at HR5
 have c6_5:=(uh HP5).payload
 obtain⟨v6,w6,hcv,hy6,hb6⟩:=conv_str q.payload (by unfold maxLen;omega) w5
 have HB6:Hid (Below w.heap.size w w6):=bnx2 (uh HB5) hb6
 have HP6:=zh ((uh HP5).below hb6)
 have HR6:=zh ((uh HR5).below hb6)
 have HY6:=zh hy6
 have HG6:=zh (sb_range q.payload)
 obtain⟨va6,vc6,rfl,-,-⟩:=hy6.form
 clear hb6 hy6 HR5 HB5 HP5 hy4
 obtain⟨M6,HEM6⟩:∃ L:List Int,Hid (L=sb q.payload):=⟨_,rfl⟩
 have nM6:M6.length<=1073741824:=by rw[uh HEM6];rw[sb_length];exact hpy
 rw[<- uh HEM6]at HY6 HG6 hcv
 go_wp2_with (first
  | (at_builtin;refine wpList_append_byt _ rfl _ _ rfl (w.heap.size+1) (.slice va5 vn5 vc5) L5.length L5 rfl (uh HR6).1 (.slice va6 M6.length vc6) M6 rfl (uh HY6) (by omega) (cell_lt (uh HP6).kind) ?_)
  | go_in)
 intro v7 w7 hown hg
 have HR7:=zh ((uh HR6).more (uh HG6) (by first | exact hown | (rw[<- List.map_append];exact hown)))
 have HB7:Hid (Below w.heap.size w w7):=below_grown (uh HB6) (uh HR6) hg
 have HP7:=zh ((uh HP6).grow2 hg (uh HR6).off)
 obtain⟨va7,vn7,vc7,rfl⟩:=(uh HR7).form
 clear hown hg HR6 HB6 HP6
 obtain⟨L7,HEL7⟩:∃ L:List Int,Hid (L=L5++M6):=⟨_,rfl⟩
 have nL7:L7.length<=1100000000:=by rw[uh HEL7];rw[List.length_append];omega
 rw[<- uh HEL7]at HR7
 clear c6_5
 go_wp2
 go_ret
 exact⟨_,rfl,by rw[uh HEL7,uh HEM6,uh HEL5,uh HEM4,uh HEL3,uh HEM2,uh HEL1]at HR7;exact (uh HR7).mono (Nat.le_succ _),uh HB7⟩
theorem gb_pub_zero (q:Pkv) (l:List Pr) (w:World) (hP:Prp w q.props.val l) (hok:okP q.kind l=true) (hto:okT q.topic=true) (hpy:q.payload.size<=1073741824) (hq:¬ 0 < q.qos) (hk:q.kind=3):Calls Tryz.prog 40 #[q.val] w (GPut ((tx q.topic++pbs l)++sb q.payload) w):=by
 obtain⟨hok1,h32⟩:=chkP0 (of_decide_eq_true hok)
 have hple:=pbs_le (of_decide_eq_true hok)
 have HPN:=zh (pk_new w q)
 have HB0:Hid (Below w.heap.size w (w.alloc (.cells q.cells.toArray 31))):=bal _ _
 have HBY:Hid (∀ W,Below w.heap.size w W->Calls Tryz.prog 83 #[.slice q.props.ao l.length q.props.cap] W (PutP (pbs l) W)):=fun W hW=>by
  have k:=rbytes_any q.props.val l q.kind W (hP.below hW) (by omega) hok1
  rw[show q.props.val=.slice q.props.ao q.props.n q.props.cap from rfl,prp_n hP]at k
  exact k
 have HTL:Hid (∀ W,Below w.heap.size w W->Calls Tryz.prog 86 #[.agg q.cells.toArray] W (GPut (gtl q.code l) W)):=fun W hW=>gtail_any q l q.kind W (hP.below hW) hok
 have HQN:=zh (prp_n hP)
 have HKK:=zh hk
 clear hP hok hok1 hk
 go_enter Tryz.func40,Tryz.ntmps40
 go_upto_region 1 with fail
 change Code.wp _ _ _ _ (w.alloc (.cells q.cells.toArray 31))
 have hsz:(w.alloc (.cells q.cells.toArray 31)).heap.size=w.heap.size+1:=by simp
 generalize w.alloc (.cells q.cells.toArray 31)=wa at HPN HB0 hsz |-
 have b0:=(uh HPN).kind
 rw[uh HKK]at b0
 have b4:=(uh HPN).topic
 have hto2:q.topic.size<=65535:=by have:=chk_0 (of_decide_eq_true hto);rw[sb_length]at this;exact this
 have HTR:=zh (tx_range q.topic hto2)
 go_wp2_with fail
 refine (Go.Proofs.YtdkmmmjjdlnnoaaGreatDoor.bin_any q.topic _ hto2).mono ?_
 rintro e w1 ⟨v1,rfl,hown1,hb1⟩
 have HB1:Hid (Below w.heap.size w w1):=bnx2 (uh HB0) hb1
 have HP1:=zh ((uh HPN).below hb1)
 have HR1:Hid (Rwb w1 (w.heap.size+1) v1 (tx q.topic)):=⟨by rw[<- hsz,tx_length];exact uh hown1,uh HTR⟩
 obtain⟨va1,vn1,vc1,rfl⟩:=(uh HR1).form
 clear hown1 hb1 b0 b4 HPN
 obtain⟨L1,HEL1⟩:∃ L:List Int,Hid (L=tx q.topic):=⟨_,rfl⟩
 have nL1:L1.length<=65537:=by rw[uh HEL1];rw[tx_length];omega
 rw[<- uh HEL1]at HR1
 have c2_1:=(uh HP1).qos
 have c5_1:=(uh HP1).id
 have c6_1:=(uh HP1).payload
 have HB3:=HB1
 have HP3:=HP1
 have HR3:=HR1
 obtain⟨w3,hw3⟩:∃ x,x=w1:=⟨_,rfl⟩
 subst hw3
 clear HB1 HP1 HR1
 have c7_3:=(uh HP3).props
 rw[show q.props.val=.slice q.props.ao q.props.n q.props.cap from rfl,uh HQN]at c7_3
 have c6_3:=(uh HP3).payload
 go_wp2_with fail
 refine ((uh HBY) _ (uh HB3)).mono ?_
 rintro e w4 ⟨v4,rfl,hy4,hb4⟩
 have HB4:Hid (Below w.heap.size w w4):=bnx2 (uh HB3) hb4
 have HP4:=zh ((uh HP3).below hb4)
 have HR4:=zh ((uh HR3).below hb4)
 have HG4:=zh (uh hy4).range
 obtain⟨va4,vc4,rfl,-,-⟩:=(uh hy4).form
 clear hb4 HR3 HB3 HP3 c7_3 c6_3 c2_1 c5_1 c6_1
 obtain⟨M4,HEM4⟩:∃ L:List Int,Hid (L=pbs l):=⟨_,rfl⟩
 have nM4:M4.length<=5000000:=by rw[uh HEM4];exact hple
 rw[<- uh HEM4]at hy4 HG4 |-
 go_wp2_with (first
  | (at_builtin;refine wpList_append_byt _ rfl _ _ rfl (w.heap.size+1) (.slice va1 vn1 vc1) L1.length L1 rfl (uh HR4).1 (.slice va4 M4.length vc4) M4 rfl (uh hy4) (by omega) (cell_lt (uh HP4).kind) ?_)
  | go_in)
 intro v5 w5 hown hg
 have HR5:=zh ((uh HR4).more (uh HG4) (by first | exact hown | (rw[<- List.map_append];exact hown)))
 have HB5:Hid (Below w.heap.size w w5):=below_grown (uh HB4) (uh HR4) hg
 have HP5:=zh ((uh HP4).grow2 hg (uh HR4).off)
 obtain⟨va5,vn5,vc5,rfl⟩:=(uh HR5).form
 clear hown hg HR4 HB4 HP4
 obtain⟨L5,HEL5⟩:∃ L:List Int,Hid (L=L1++M4):=⟨_,rfl⟩
 have nL5:L5.length<=5065539:=by rw[uh HEL5];rw[List.length_append];omega
 rw[<- uh HEL5]at HR5
 have c6_5:=(uh HP5).payload
 obtain⟨v6,w6,hcv,hy6,hb6⟩:=conv_str q.payload (by unfold maxLen;omega) w5
 have HB6:Hid (Below w.heap.size w w6):=bnx2 (uh HB5) hb6
 have HP6:=zh ((uh HP5).below hb6)
 have HR6:=zh ((uh HR5).below hb6)
 have HY6:=zh hy6
 have HG6:=zh (sb_range q.payload)
 obtain⟨va6,vc6,rfl,-,-⟩:=hy6.form
 clear hb6 hy6 HR5 HB5 HP5 hy4
 obtain⟨M6,HEM6⟩:∃ L:List Int,Hid (L=sb q.payload):=⟨_,rfl⟩
 have nM6:M6.length<=1073741824:=by rw[uh HEM6];rw[sb_length];exact hpy
 rw[<- uh HEM6]at HY6 HG6 hcv
 go_wp2_with (first
  | (at_builtin;refine wpList_append_byt _ rfl _ _ rfl (w.heap.size+1) (.slice va5 vn5 vc5) L5.length L5 rfl (uh HR6).1 (.slice va6 M6.length vc6) M6 rfl (uh HY6) (by omega) (cell_lt (uh HP6).kind) ?_)
  | go_in)
 intro v7 w7 hown hg
 have HR7:=zh ((uh HR6).more (uh HG6) (by first | exact hown | (rw[<- List.map_append];exact hown)))
 have HB7:Hid (Below w.heap.size w w7):=below_grown (uh HB6) (uh HR6) hg
 have HP7:=zh ((uh HP6).grow2 hg (uh HR6).off)
 obtain⟨va7,vn7,vc7,rfl⟩:=(uh HR7).form
 clear hown hg HR6 HB6 HP6
 obtain⟨L7,HEL7⟩:∃ L:List Int,Hid (L=L5++M6):=⟨_,rfl⟩
 have nL7:L7.length<=1100000000:=by rw[uh HEL7];rw[List.length_append];omega
 rw[<- uh HEL7]at HR7
 clear c6_5
 go_wp2
 go_ret
 exact⟨_,rfl,by rw[uh HEL7,uh HEM6,uh HEL5,uh HEM4,uh HEL1]at HR7;exact (uh HR7).mono (Nat.le_succ _),uh HB7⟩
theorem only_pub (P:Pa):empA P.no_dup.no_retain.no_topic.no_qos.no_id.no_props.no_payload=true ↔ (⟨P.kind,P.dup,P.qos,P.retain,P.topic,P.id,P.payload,P.props,⟨#[]⟩,false,0,[],[],[],0,false,[],[],[]⟩:Pa)=P:=by
 unfold empA
 rw[decide_eq_true_iff]
 obtain⟨p_kind,p_dup,p_qos,p_retain,p_topic,p_id,p_payload,p_props,p_client,p_clean,p_keep,p_wills,p_user,p_pass,p_code,p_session,p_subs,p_filters,p_codes⟩:=P
 constructor
 ·rintro⟨⟨e_dup,e_retain,e_clean,e_session⟩,⟨e_qos,e_id,e_keep,e_code⟩,⟨e_topic,e_payload,e_client⟩,e_props,e_wills,e_user,e_pass,e_subs,e_filters,e_codes⟩
  simp only[Pa.mk.injEq]
  exact⟨trivial,trivial,trivial,trivial,trivial,trivial,trivial,trivial,(bsz.1 e_client).symm,e_clean.symm,e_keep.symm,(List.length_eq_zero_iff.1 e_wills).symm,(List.length_eq_zero_iff.1 e_user).symm,(List.length_eq_zero_iff.1 e_pass).symm,e_code.symm,e_session.symm,(List.length_eq_zero_iff.1 e_subs).symm,(List.length_eq_zero_iff.1 e_filters).symm,(List.length_eq_zero_iff.1 e_codes).symm⟩
 ·intro h
  simp only[Pa.mk.injEq]at h
  obtain⟨h_kind,h_dup,h_qos,h_retain,h_topic,h_id,h_payload,h_props,h_client,h_clean,h_keep,h_wills,h_user,h_pass,h_code,h_session,h_subs,h_filters,h_codes⟩:=h
  exact⟨⟨rfl,rfl,h_clean.symm,h_session.symm⟩,⟨rfl,rfl,h_keep.symm,h_code.symm⟩,⟨rfl,rfl,bsz.2 h_client.symm⟩,rfl,List.length_eq_zero_iff.2 h_wills.symm,List.length_eq_zero_iff.2 h_user.symm,List.length_eq_zero_iff.2 h_pass.symm,List.length_eq_zero_iff.2 h_subs.symm,List.length_eq_zero_iff.2 h_filters.symm,List.length_eq_zero_iff.2 h_codes.symm⟩
theorem pubO_t {t:ByteArray} {q i:Int} {d:Bool} (h:okT t=false):pubO t q i d=false:=by unfold pubO;rw[h];rfl
theorem pubO_1 {t:ByteArray} {q i:Int} {d:Bool} (h:¬ 0<=q):pubO t q i d=false:=by unfold pubO;rw[decide_eq_false h];simp
theorem pubO_2 {t:ByteArray} {q i:Int} {d:Bool} (h:¬ q<=2):pubO t q i d=false:=by unfold pubO;rw[decide_eq_false h];simp
theorem pubO_3 {t:ByteArray} {i:Int} {d:Bool} (h:¬ i=0):pubO t 0 i d=false:=by unfold pubO;rw[if_pos rfl,decide_eq_false h];simp
theorem pubO_4 {t:ByteArray} {i:Int}:pubO t 0 i true=false:=by unfold pubO;rw[if_pos rfl];simp
theorem pubO_5 {t:ByteArray} (h:okT t=true):pubO t 0 0 false=true:=by unfold pubO;rw[h];rfl
theorem pubO_6 {t:ByteArray} {q i:Int} {d:Bool} (h:okT t=true) (h1:0 < q) (h2:q<=2):pubO t q i d=idO i:=by unfold pubO;rw[h,decide_eq_true (show 0<=q from by omega),decide_eq_true h2,if_neg (by omega)];simp
theorem may_pub (q:Pkv) (P:Pa) (w:World) (hR:RPk w q P) (hmx:P.props.length<=1000000000) (hsm:Go.Proofs.YtdkmmmjjdlnnoaaGreatDoor.Small P.props) (E:Bool) (hEQ:∀ W,Below w.heap.size w W->Calls Tryz.prog 24 #[.agg (((((((xk q).wi_dup q.dup).wi_qos q.qos).wi_retain q.retain).wi_topic q.topic).wi_id q.id).wi_payload q.payload).cells.toArray,.agg q.cells.toArray] W fun e w'=>e=.returned (.bool E)/\Below W.heap.size W w') (hto:q.topic.size<=4611686018427387904) (hk:P.kind=3) :
  Calls Tryz.prog 39 #[q.val] w fun e w'=>e=.returned (.bool (tlB P (pubO q.topic q.qos q.id q.dup) E))/\Below w.heap.size w w':=by
 have HEQ:=zh hEQ
 have HMX0:=zh hmx
 have HSM:=zh hsm
 have HRP:=zh hR.props
 have HQN:=zh hR.cnt.ns.1
 have HKP:=zh hR.sc.1
 have hk2:=hk
 rw[<- hR.sc.1]at hk2
 have HKK:=zh hk2
 have HSC:=zh hR
 clear hEQ hsm hR hk hk2
 have HPN:=zh (pk_new w q)
 have HMN:=zh (ms_new w q)
 have HX:Hid ((w.alloc (.cells q.cells.toArray 31)).heap.size=w.heap.size+1):=by show _=_;simp
 go_enter Tryz.func39,Tryz.ntmps39
 go_upto_region 1 with fail
 change Code.wp _ _ _ _ (w.alloc (.cells q.cells.toArray 31))
 generalize w.alloc (.cells q.cells.toArray 31)=wa at HPN HMN HX |-
 have c0:=(uh HPN).kind
 have c7:=(uh HPN).props
 iterate 13 go_step
 refine Go.Proofs.YtdkmmmjjdlnnoaaGreatDoor.wpList_value rfl (packet_build2 _ _ _ _ _ _ _ q rfl rfl _) ?_
 simp only[Act.put,List.setIfInBounds_toArray,List.set_cons_zero,List.set_cons_succ]
 refine Go.Proofs.YtdkmmmjjdlnnoaaGreatDoor.wpList_value rfl (mpacket_alloc _ _ _ _ _ _) ?_
 simp only[Act.put,List.setIfInBounds_toArray,List.set_cons_zero,List.set_cons_succ]
 refine Go.Proofs.YtdkmmmjjdlnnoaaGreatDoor.wpList_skip rfl (mpacket_store _ _ _ _ _ _ _ (xk q) wa rfl rfl) ?_
 simp only[Act.put]
 have HM:Hid (MS w (wa.alloc (.cells (xk q).cells.toArray 31)) w.heap.size wa.heap.size q (xk q)):=by rw[uh HX];exact uh HMN
 generalize wa.alloc (.cells (xk q).cells.toArray 31)=w1 at HM |-
 generalize wa.heap.size=X at HM |-
 generalize hBB:w.heap.size=B at HM |-
 have HBB:=zh hBB
 clear c0 c7 HPN HMN HX hBB
 have c0:=(uh HM).pb.kind
 rw[uh HKK]at c0
 go_wp2_with fail
 have HMd0:Hid (MS w w1.drew B X q (xk q)):=(uh HM).below (below_drewN (Below.refl _ _) 1)
 clear HM c0
 refine wp_region_noPanic ?_
 refine wp_region_held_drew (S:=(fun w'=>w'.cell? ⟨B,1,none⟩=some (.bool q.dup)/\w'.cell? ⟨B,2,none⟩=some (.int .i64 q.qos)/\w'.cell? ⟨B,3,none⟩=some (.bool q.retain)/\w'.cell? ⟨B,4,none⟩=some (.string q.topic)/\w'.cell? ⟨B,5,none⟩=some (.int .i64 q.id)/\w'.cell? ⟨B,6,none⟩=some (.string q.payload))) (by kernel_rfl) ⟨(uh HMd0).pb.dup,(uh HMd0).pb.qos,(uh HMd0).pb.retain,(uh HMd0).pb.topic,(uh HMd0).pb.id,(uh HMd0).pb.payload⟩ (fun hHeld=>?_)
 generalize w1.drew=wd0 at HMd0 hHeld |-
 refine rtk 0 (h:=?_)
 refine rtk 1 (h:=?_)
 refine rtk 2 (h:=?_)
 refine rtk 3 (h:=?_)
 refine rtk 4 (h:=?_)
 refine rtk 5 (h:=?_)
 refine rtk 6 (h:=?_)
 refine rtk 7 (h:=?_)
 refine rtk 8 (h:=?_)
 refine rtk 9 (h:=?_)
 refine rtk 10 (h:=?_)
 refine rtk 11 (h:=?_)
 refine rtk 12 (h:=?_)
 have x1:=(uh HMd0).px.dup
 have y1:=(uh HMd0).px.dup_f
 have HMd1:=zh ((uh HMd0).wi_dup q.dup)
 refine rcl 13 (h:=fun K hK=>?_)
 go_simp
 refine hK.out _ _ ⟨(uh HMd1).pb.dup,(uh HMd1).pb.qos,(uh HMd1).pb.retain,(uh HMd1).pb.topic,(uh HMd1).pb.id,(uh HMd1).pb.payload⟩ (fun hHeld=>?_)
 clear hK K x1 y1 HMd0
 generalize World.setCell _ ⟨X,1,none⟩ (.bool q.dup)=wd1 at HMd1 hHeld |-
 refine rtk 14 (h:=?_)
 have x2:=(uh HMd1).px.qos
 have y2:=(uh HMd1).px.qos_f
 have HMd2:=zh ((uh HMd1).wi_qos q.qos)
 refine rcl 15 (h:=fun K hK=>?_)
 go_simp
 refine hK.out _ _ ⟨(uh HMd2).pb.dup,(uh HMd2).pb.qos,(uh HMd2).pb.retain,(uh HMd2).pb.topic,(uh HMd2).pb.id,(uh HMd2).pb.payload⟩ (fun hHeld=>?_)
 clear hK K x2 y2 HMd1
 generalize World.setCell _ ⟨X,2,none⟩ (.int .i64 q.qos)=wd2 at HMd2 hHeld |-
 refine rtk 16 (h:=?_)
 have x3:=(uh HMd2).px.retain
 have y3:=(uh HMd2).px.retain_f
 have HMd3:=zh ((uh HMd2).wi_retain q.retain)
 refine rcl 17 (h:=fun K hK=>?_)
 go_simp
 refine hK.out _ _ ⟨(uh HMd3).pb.dup,(uh HMd3).pb.qos,(uh HMd3).pb.retain,(uh HMd3).pb.topic,(uh HMd3).pb.id,(uh HMd3).pb.payload⟩ (fun hHeld=>?_)
 clear hK K x3 y3 HMd2
 generalize World.setCell _ ⟨X,3,none⟩ (.bool q.retain)=wd3 at HMd3 hHeld |-
 refine rtk 18 (h:=?_)
 have x4:=(uh HMd3).px.topic
 have y4:=(uh HMd3).px.topic_f
 have HMd4:=zh ((uh HMd3).wi_topic q.topic)
 refine rcl 19 (h:=fun K hK=>?_)
 go_simp
 refine hK.out _ _ ⟨(uh HMd4).pb.dup,(uh HMd4).pb.qos,(uh HMd4).pb.retain,(uh HMd4).pb.topic,(uh HMd4).pb.id,(uh HMd4).pb.payload⟩ (fun hHeld=>?_)
 clear hK K x4 y4 HMd3
 generalize World.setCell _ ⟨X,4,none⟩ (.string q.topic)=wd4 at HMd4 hHeld |-
 refine rtk 20 (h:=?_)
 have x5:=(uh HMd4).px.id
 have y5:=(uh HMd4).px.id_f
 have HMd5:=zh ((uh HMd4).wi_id q.id)
 refine rcl 21 (h:=fun K hK=>?_)
 go_simp
 refine hK.out _ _ ⟨(uh HMd5).pb.dup,(uh HMd5).pb.qos,(uh HMd5).pb.retain,(uh HMd5).pb.topic,(uh HMd5).pb.id,(uh HMd5).pb.payload⟩ (fun hHeld=>?_)
 clear hK K x5 y5 HMd4
 generalize World.setCell _ ⟨X,5,none⟩ (.int .i64 q.id)=wd5 at HMd5 hHeld |-
 refine rtk 22 (h:=?_)
 have x6:=(uh HMd5).px.payload
 have y6:=(uh HMd5).px.payload_f
 have HMd6:=zh ((uh HMd5).wi_payload q.payload)
 refine rcl 23 (h:=fun K hK=>?_)
 go_simp
 refine hK.out _ _ ⟨(uh HMd6).pb.dup,(uh HMd6).pb.qos,(uh HMd6).pb.retain,(uh HMd6).pb.topic,(uh HMd6).pb.id,(uh HMd6).pb.payload⟩ (fun hHeld=>?_)
 clear hK K x6 y6 HMd5
 generalize World.setCell _ ⟨X,6,none⟩ (.string q.payload)=wd6 at HMd6 hHeld |-
 refine wpAnyH_done (by kernel_rfl) ?_ _
 refine NoPanic.normal ?_
 have HM:=HMd6
 clear HMd6 hHeld
 have HPO:Hid (pubO q.topic q.qos q.id q.dup=pubO q.topic q.qos q.id q.dup):=rfl
 have b1:=(uh HM).pb.dup
 have b2:=(uh HM).pb.qos
 have b4:=(uh HM).pb.topic
 have b5:=(uh HM).pb.id
 have HE0:=zh (Eq.refl (tlB P (pubO q.topic q.qos q.id q.dup) E))
 obtain⟨qo,hqo⟩:∃ z,z=q.qos:=⟨_,rfl⟩
 obtain⟨idd,hidd⟩:∃ z,z=q.id:=⟨_,rfl⟩
 obtain⟨dd,hdd⟩:∃ z,z=q.dup:=⟨_,rfl⟩
 have HQO:=zh hqo
 have HIDD:=zh hidd
 have HDD:=zh hdd
 rw[<- hqo]at b2
 rw[<- hidd]at b5
 rw[<- hdd]at b1
 clear hqo hidd hdd HPO HE0
 have HOK:Hid (pubO q.topic q.qos q.id q.dup=pubO q.topic qo idd dd):=by show _=_;rw[uh HQO,uh HIDD,uh HDD]
 clear HQO HIDD HDD
 cases ht:okT q.topic
 ·have HT:=zh ht
  clear ht
  go_wp2_with fail
  refine (gtext_any q.topic false (uh HT) _ hto).mono ?_
  rintro e w3 ⟨rfl,hb3⟩
  have HM3:=zh ((uh HM).below hb3)
  clear hb3 HM
  have HM:=HM3
  clear HM3
  have HR:Hid (tlB P (pubO q.topic q.qos q.id q.dup) E=false):=by show _=_;rw[uh HOK,pubO_t (uh HT)];rfl
  go_wp2
  go_ret
  exact⟨by rw[uh HR];rfl,(uh HM).bel⟩
 ·have HT:=zh ht
  clear ht
  go_wp2_with fail
  refine (gtext_any q.topic true (uh HT) _ hto).mono ?_
  rintro e w3 ⟨rfl,hb3⟩
  have HM3:=zh ((uh HM).below hb3)
  have b1:=(hb3.cell (cell_lt b1)).trans b1
  have b2:=(hb3.cell (cell_lt b2)).trans b2
  have b5:=(hb3.cell (cell_lt b5)).trans b5
  clear hb3 HM
  have HM:=HM3
  clear HM3
  by_cases h1:0<=qo
  ·by_cases h2:qo<=2
   ·by_cases h3:qo=0
    ·subst h3
     by_cases h4:idd=0
     ·subst h4
      cases dd
      ·go_upto_region 55 with fail
       iterate 7 go_step
       refine mpList_wanted (by rfl) fun K hK=>wp_load_mid 31 _ rfl X 0 rfl (((((((xk q).wi_dup q.dup).wi_qos q.qos).wi_retain q.retain).wi_topic q.topic).wi_id q.id).wi_payload q.payload).cells _ (uh HM).px.range Tryz.underlying31 rfl packet_size (hK _ _ ?_)
       clear hK K
       simp only[Act.put,List.setIfInBounds_toArray,List.set_cons_zero,List.set_cons_succ]
       refine mpList_wanted (by rfl) fun K hK=>wp_load_mid 31 _ rfl B 0 rfl q.cells _ (uh HM).pb.range Tryz.underlying31 rfl packet_size (hK _ _ ?_)
       clear hK K
       simp only[Act.put,List.setIfInBounds_toArray,List.set_cons_zero,List.set_cons_succ]
       go_wp2_with fail
       refine ((uh HEQ) _ (uh HM).bel).mono ?_
       rintro e wz ⟨rfl,hbz⟩
       have HZ:=zh ((uh HM).below hbz)
       clear hbz HM
       have z0:=(uh HZ).pb.kind
       have z7:=(uh HZ).pb.props
       rw[show q.props.val=.slice q.props.ao q.props.n q.props.cap from rfl,uh HQN]at z7
       cases E
       ·have HR:Hid (tlB P (pubO q.topic q.qos q.id q.dup) false=false):=by show _=_;rw[uh HOK,pubO_5 (uh HT)];rfl
        go_wp2
        go_ret
        exact⟨by rw[uh HR];rfl,(uh HZ).bel⟩
       ·by_cases hp0:P.props.length=0
        ·have HR:Hid (tlB P (pubO q.topic q.qos q.id q.dup) true=true):=by show _=_;rw[uh HOK,pubO_5 (uh HT)];unfold tlB;rw[decide_eq_true hp0];rfl
         rw[hp0]at z7
         clear hp0
         go_wp2
         go_ret
         exact⟨by rw[uh HR];rfl,(uh HZ).bel⟩
        ·have HR:Hid (tlB P (pubO q.topic q.qos q.id q.dup) true=okP P.kind P.props):=by show _=_;rw[uh HOK,pubO_5 (uh HT)];unfold tlB;rw[decide_eq_false hp0];rfl
         have hp1:((P.props.length:Int) == 0)=false:=beq_false_of_ne (by omega)
         clear hp0
         rw[uh HKP]at z0
         go_wp2_with fail
         refine (gprops_any _ P.props P.kind _ (by rw[<- uh HQN];exact (uh HRP).below (uh HZ).bel) hmx (uh HSM)).mono ?_
         rintro e wy ⟨rfl,hby⟩
         have HY:=zh ((uh HZ).below hby)
         clear hby HZ
         go_wp2
         go_ret
         exact⟨by rw[uh HR];rfl,(uh HY).bel⟩
      ·have HR:Hid (tlB P (pubO q.topic q.qos q.id q.dup) E=false):=by show _=_;rw[uh HOK,pubO_4];rfl
       go_wp2
       go_ret
       exact⟨by rw[uh HR];rfl,(uh HM).bel⟩
     ·have h4b:(idd == 0)=false:=beq_false_of_ne h4
      have H4:=zh h4
      clear h4
      have HR:Hid (tlB P (pubO q.topic q.qos q.id q.dup) E=false):=by show _=_;rw[uh HOK,pubO_3 (uh H4)];rfl
      go_wp2
      go_ret
      exact⟨by rw[uh HR];rfl,(uh HM).bel⟩
    ·have h5:0 < qo:=by omega
     have h6:(qo == 0)=false:=beq_false_of_ne h3
     have HO6:Hid (pubO q.topic q.qos q.id q.dup=idO idd):=by show _=_;rw[uh HOK,pubO_6 (uh HT) h5 h2]
     clear h3
     go_wp2_with fail
     refine (gid_any idd _).mono ?_
     rintro e w4 ⟨rfl,hw4⟩
     obtain rfl:=hw4.symm
     clear hw4
     cases hid:idO idd
     ·have HID:=zh hid
      clear hid
      have HR:Hid (tlB P (pubO q.topic q.qos q.id q.dup) E=false):=by show _=_;rw[uh HO6,uh HID];rfl
      go_wp2
      go_ret
      exact⟨by rw[uh HR];rfl,(uh HM).bel⟩
     ·have HID:=zh hid
      clear hid
      go_upto_region 55 with fail
      iterate 7 go_step
      refine mpList_wanted (by rfl) fun K hK=>wp_load_mid 31 _ rfl X 0 rfl (((((((xk q).wi_dup q.dup).wi_qos q.qos).wi_retain q.retain).wi_topic q.topic).wi_id q.id).wi_payload q.payload).cells _ (uh HM).px.range Tryz.underlying31 rfl packet_size (hK _ _ ?_)
      clear hK K
      simp only[Act.put,List.setIfInBounds_toArray,List.set_cons_zero,List.set_cons_succ]
      refine mpList_wanted (by rfl) fun K hK=>wp_load_mid 31 _ rfl B 0 rfl q.cells _ (uh HM).pb.range Tryz.underlying31 rfl packet_size (hK _ _ ?_)
      clear hK K
      simp only[Act.put,List.setIfInBounds_toArray,List.set_cons_zero,List.set_cons_succ]
      go_wp2_with fail
      refine ((uh HEQ) _ (uh HM).bel).mono ?_
      rintro e wz ⟨rfl,hbz⟩
      have HZ:=zh ((uh HM).below hbz)
      clear hbz HM
      have z0:=(uh HZ).pb.kind
      have z7:=(uh HZ).pb.props
      rw[show q.props.val=.slice q.props.ao q.props.n q.props.cap from rfl,uh HQN]at z7
      cases E
      ·have HR:Hid (tlB P (pubO q.topic q.qos q.id q.dup) false=false):=by show _=_;rw[uh HO6,uh HID];rfl
       go_wp2
       go_ret
       exact⟨by rw[uh HR];rfl,(uh HZ).bel⟩
      ·by_cases hp0:P.props.length=0
       ·have HR:Hid (tlB P (pubO q.topic q.qos q.id q.dup) true=true):=by show _=_;rw[uh HO6,uh HID];unfold tlB;rw[decide_eq_true hp0];rfl
        rw[hp0]at z7
        clear hp0
        go_wp2
        go_ret
        exact⟨by rw[uh HR];rfl,(uh HZ).bel⟩
       ·have HR:Hid (tlB P (pubO q.topic q.qos q.id q.dup) true=okP P.kind P.props):=by show _=_;rw[uh HO6,uh HID];unfold tlB;rw[decide_eq_false hp0];rfl
        have hp1:((P.props.length:Int) == 0)=false:=beq_false_of_ne (by omega)
        clear hp0
        rw[uh HKP]at z0
        go_wp2_with fail
        refine (gprops_any _ P.props P.kind _ (by rw[<- uh HQN];exact (uh HRP).below (uh HZ).bel) hmx (uh HSM)).mono ?_
        rintro e wy ⟨rfl,hby⟩
        have HY:=zh ((uh HZ).below hby)
        clear hby HZ
        go_wp2
        go_ret
        exact⟨by rw[uh HR];rfl,(uh HY).bel⟩
   ·have H2:=zh h2
    have h2b:2 < qo:=by omega
    clear h2
    have HR:Hid (tlB P (pubO q.topic q.qos q.id q.dup) E=false):=by show _=_;rw[uh HOK,pubO_2 (show ¬ qo<=2 from by omega)];rfl
    go_wp2
    go_ret
    exact⟨by rw[uh HR];rfl,(uh HM).bel⟩
  ·have h1b:qo < 0:=by omega
   clear h1
   have HR:Hid (tlB P (pubO q.topic q.qos q.id q.dup) E=false):=by show _=_;rw[uh HOK,pubO_1 (show ¬ 0<=qo from by omega)];rfl
   go_wp2
   go_ret
   exact⟨by rw[uh HR];rfl,(uh HM).bel⟩
theorem mayA_pub {w:World} {q:Pkv} {P:Pa} (hR:RPk w q P) (hM:Mid P) (hk:P.kind=3):Calls Tryz.prog 39 #[q.val] w fun e w'=>e=.returned (.bool (tlB P (pubO P.topic P.qos P.id P.dup) (empA P.no_dup.no_retain.no_topic.no_qos.no_id.no_props.no_payload)))/\Below w.heap.size w w':=by
 have hB:=hM.big
 obtain⟨h0,h1,h2,h3,h4,h5,h6,h7,h8,h9,h10,h11⟩:=hR.sc
 have hx:RPk w (((((((xk q).wi_dup q.dup).wi_qos q.qos).wi_retain q.retain).wi_topic q.topic).wi_id q.id).wi_payload q.payload) (⟨P.kind,P.dup,P.qos,P.retain,P.topic,P.id,P.payload,P.props,⟨#[]⟩,false,0,[],[],[],0,false,[],[],[]⟩:Pa):=⟨⟨h0,h1,h2,h3,h4,h5,h6,rfl,rfl,rfl,rfl,rfl⟩,hR.props,⟨none,0,rfl,⟨Nat.le_refl _,Nat.zero_le _⟩,.inl rfl⟩,⟨none,0,rfl,⟨Nat.le_refl _,Nat.zero_le _⟩,.inl rfl⟩,⟨none,0,rfl,⟨Nat.le_refl _,Nat.zero_le _⟩,.inl rfl⟩,⟨none,0,rfl,⟨Nat.le_refl _,Nat.zero_le _⟩,.inl rfl⟩,⟨none,0,rfl,⟨Nat.le_refl _,Nat.zero_le _⟩,.inl rfl⟩,⟨none,0,rfl,⟨Nat.le_refl _,Nat.zero_le _⟩,.inl rfl⟩⟩
 have hs:Small (⟨P.kind,P.dup,P.qos,P.retain,P.topic,P.id,P.payload,P.props,⟨#[]⟩,false,0,[],[],[],0,false,[],[],[]⟩:Pa):=⟨by have:=hB.lists;have:=hM.props;simp;try omega,by have:=hB.lists;simp;try omega,by have:=hB.lists;simp;try omega⟩
 have k:=may_pub q P w hR hM.props hB.props (empA P.no_dup.no_retain.no_topic.no_qos.no_id.no_props.no_payload) (heq_of hx hR hs (only_pub P)) (by rw[h4];have:=hB.texts;omega) hk
 rw[h4,h2,h5,h1]at k
 exact k
theorem enc_pub_pos {w:World} {q:Pkv} {P:Pa} (hR:RPk w q P) (hB:Big P) (hk:P.kind=3) (hq:0 < P.qos):Calls Tryz.prog 19 #[q.val] w (EncQ (fkA P).1 (fkA P).2 q.kind (eb P) w):=by
 have hc:=hR.cnt
 have hf:=hB.fit hc
 obtain⟨h0,h1,h2,h3,h4,h5,h6,h7,h8,h9,h10,h11⟩:=hc.sc
 have hL:=hB.lists
 have k:=hk
 rw[<- h0]at k
 refine enc_core q (q.no_dup.no_retain.no_topic.no_qos.no_id.no_props.no_payload) _ _ _ (2000000000) w (by omega) (fun W=>fk_any q P hc W) (fun w0 w1 W hb hQ=>?_)
 have e:=(hc.no_dup.no_retain.no_topic.no_qos.no_id.no_props.no_payload).emp
 unfold eb
 rw[if_neg (by omega),if_neg (by omega),if_pos (by omega),if_pos hq,<- e,<- h0,<- h2,<- h4,<- h5,<- h6]
 exact pk_pub_pos hQ hf P.props (hR.props.below hb) hB.lists.1 hB.props (by rw[h4];have:=hB.texts;omega) (by rw[h6];have:=hB.texts;omega) (by rw[h2];exact hq) k
theorem enc_pub_zero {w:World} {q:Pkv} {P:Pa} (hR:RPk w q P) (hB:Big P) (hk:P.kind=3) (hq:¬ 0 < P.qos):Calls Tryz.prog 19 #[q.val] w (EncQ (fkA P).1 (fkA P).2 q.kind (eb P) w):=by
 have hc:=hR.cnt
 have hf:=hB.fit hc
 obtain⟨h0,h1,h2,h3,h4,h5,h6,h7,h8,h9,h10,h11⟩:=hc.sc
 have hL:=hB.lists
 have k:=hk
 rw[<- h0]at k
 refine enc_core q (q.no_dup.no_retain.no_topic.no_qos.no_props.no_payload) _ _ _ (2000000000) w (by omega) (fun W=>fk_any q P hc W) (fun w0 w1 W hb hQ=>?_)
 have e:=(hc.no_dup.no_retain.no_topic.no_qos.no_props.no_payload).emp
 unfold eb
 rw[if_neg (by omega),if_neg (by omega),if_pos (by omega),if_neg hq,<- e,<- h0,<- h2,<- h4,<- h5,<- h6]
 exact pk_pub_zero hQ hf P.props (hR.props.below hb) hB.lists.1 hB.props (by rw[h4];have:=hB.texts;omega) (by rw[h6];have:=hB.texts;omega) (by rw[h2];exact hq) k
theorem br_eb_3 {P:Pa} (h:P.kind=3) (X:Option (List Int)) (hX:(sPub P.topic P.qos P.id P.kind P.props P.payload []).bind (sMust (if 0 < P.qos then empA P.no_dup.no_retain.no_topic.no_qos.no_id.no_props.no_payload else empA P.no_dup.no_retain.no_topic.no_qos.no_props.no_payload))=X):eb P=X:=by
 unfold eb
 rw[if_neg (by omega),if_neg (by omega),if_pos h]
 exact hX
theorem br_gb_3 {P:Pa} (h:P.kind=3) (X:List Int) (hX:(if 0 < P.qos then ((tx P.topic++b2 P.id)++pbs P.props)++sb P.payload else (tx P.topic++pbs P.props)++sb P.payload)=X):gbd P=X:=by
 unfold gbd
 rw[if_neg (by omega),if_neg (by omega),if_pos h]
 exact hX
theorem in16_id (n:Int):(in16 n && n != 0)=idO n:=by
 rw[Bool.eq_iff_iff]
 simp[in16,idO]
 omega
theorem emp_id (P:Pa):empA P=(decide (P.id=0) && empA P.no_id):=by
 rw[Bool.eq_iff_iff,Bool.and_eq_true,decide_eq_true_eq]
 unfold empA
 rw[decide_eq_true_eq,decide_eq_true_eq]
 unfold EmpA Pa.no_id
 dsimp only
 constructor
 ·rintro⟨a,⟨b1,b2,b3,b4⟩,c⟩
  exact⟨b2,a,⟨b1,rfl,b3,b4⟩,c⟩
 ·rintro⟨b2,a,⟨b1,-,b3,b4⟩,c⟩
  exact⟨a,⟨b1,b2,b3,b4⟩,c⟩
theorem eb_3 {P:Pa} (h:P.kind=3) (hp:pok P.dup P.qos=true):eb P=if mayA P then some (gbd P) else none:=by
 unfold pok mq at hp
 simp only[Bool.and_eq_true,Bool.or_eq_true,decide_eq_true_eq]at hp
 obtain⟨⟨h0,h2⟩,hd⟩:=hp
 rw[br_eb_3 h _ rfl,br_may_3 h _ rfl,br_gb_3 h _ rfl,tlB_eq]
 unfold pubO sPub
 rw[decide_eq_true h0,decide_eq_true h2,in16_id]
 by_cases hq:P.qos=0
 ·have hn:¬ 0 < P.qos:=by omega
  have hdu:(!P.dup)=true:=by rcases hd with hd | hd;(· omega);(· exact hd)
  rw[if_neg hn,if_neg hn,if_neg hn,if_pos hq,hdu,emp_id P.no_dup.no_retain.no_topic.no_qos.no_props.no_payload]
  have e:(P.no_dup.no_retain.no_topic.no_qos.no_props.no_payload.no_id)=P.no_dup.no_retain.no_topic.no_qos.no_id.no_props.no_payload:=rfl
  rw[e,show P.no_dup.no_retain.no_topic.no_qos.no_props.no_payload.id=P.id from rfl]
  cases okT P.topic <;> cases decide (P.id=0) <;> cases okP P.kind P.props <;> cases empA P.no_dup.no_retain.no_topic.no_qos.no_id.no_props.no_payload <;> simp[sAdd,sMust]
 ·have hn:0 < P.qos:=by omega
  rw[if_pos hn,if_pos hn,if_pos hn,if_neg hq]
  cases okT P.topic <;> cases idO P.id <;> cases okP P.kind P.props <;> cases empA P.no_dup.no_retain.no_topic.no_qos.no_id.no_props.no_payload <;> simp[sAdd,sMust]
end Go.Proofs.YtdkmmmjjdlnnoaaGreatDoor.K
