/- Helpers of the proof. -/
import Derived.Test.YtmpijpjlbhfccaaGreatDoorZC22
import Derived.Test.YtmpijpjlbhfccaaGreatDoorZC36
import Derived.Test.YtmpijpjlbhfccaaGreatDoorZC37
import Derived.Test.YtmpijpjlbhfccaaGreatDoorZC38
import Derived.Test.YtmpijpjlbhfccaaGreatDoorZC39
import Derived.Test.YtmpijpjlbhfccaaGreatDoorZC31
import Derived.Test.YtmpijpjlbhfccaaGreatDoorZC6
set_option maxHeartbeats 20000000
namespace Go.Proofs.YtmpijpjlbhfccaaGreatDoor.K
open Go.RowKit
set_option maxRecDepth 100000
theorem eqpk_any (p q:Pkv) (P Q:Pa) (w:World) (hp:RPk w p P) (hq:RPk w q Q) (hs:Small P) :
  Calls Tryz.prog 12 #[p.val,q.val] w fun e w'=>(∃ b,e=.returned (.bool b)/\(b=true ↔ P=Q))/\Below w.heap.size w w':=by
 obtain⟨x0,x1,x2,x3,x4,x5,x6,x7,x8,x9,x10,x11⟩:=hp.sc
 obtain⟨y0,y1,y2,y3,y4,y5,y6,y7,y8,y9,y10,y11⟩:=hq.sc
 rcases Classical.em (P.kind≠Q.kind)with e0|e0
 ·exact Calls.mono (eqpk_no0 (by rw[x0,y0];exact beq_false_of_ne e0)) fun e w' ⟨he,hb⟩=>⟨⟨false,he,⟨fun k=>(by cases k),fun k=>absurd (by rw[k]) e0⟩⟩,hb⟩
 have e0:=Classical.not_not.1 e0
 rcases Classical.em (P.dup≠Q.dup)with e1|e1
 ·exact Calls.mono (eqpk_no1 (by rw[x0,y0,e0];simp) (by rw[x1,y1];exact beq_false_of_ne e1)) fun e w' ⟨he,hb⟩=>⟨⟨false,he,⟨fun k=>(by cases k),fun k=>absurd (by rw[k]) e1⟩⟩,hb⟩
 have e1:=Classical.not_not.1 e1
 rcases Classical.em (P.qos≠Q.qos)with e2|e2
 ·exact Calls.mono (eqpk_no2 (by rw[x0,y0,e0];simp) (by rw[x1,y1,e1];simp) (by rw[x2,y2];exact beq_false_of_ne e2)) fun e w' ⟨he,hb⟩=>⟨⟨false,he,⟨fun k=>(by cases k),fun k=>absurd (by rw[k]) e2⟩⟩,hb⟩
 have e2:=Classical.not_not.1 e2
 rcases Classical.em (P.retain≠Q.retain)with e3|e3
 ·exact Calls.mono (eqpk_no3 (by rw[x0,y0,e0];simp) (by rw[x1,y1,e1];simp) (by rw[x2,y2,e2];simp) (by rw[x3,y3];exact beq_false_of_ne e3)) fun e w' ⟨he,hb⟩=>⟨⟨false,he,⟨fun k=>(by cases k),fun k=>absurd (by rw[k]) e3⟩⟩,hb⟩
 have e3:=Classical.not_not.1 e3
 rcases Classical.em (P.topic≠Q.topic)with e4|e4
 ·exact Calls.mono (eqpk_no4 (by rw[x0,y0,e0];simp) (by rw[x1,y1,e1];simp) (by rw[x2,y2,e2];simp) (by rw[x3,y3,e3];simp) (by rw[x4,y4];exact beq_false_of_ne (fun k=>e4 (text_ext k)))) fun e w' ⟨he,hb⟩=>⟨⟨false,he,⟨fun k=>(by cases k),fun k=>absurd (by rw[k]) e4⟩⟩,hb⟩
 have e4:=Classical.not_not.1 e4
 rcases Classical.em (P.id≠Q.id)with e5|e5
 ·exact Calls.mono (eqpk_no5 (by rw[x0,y0,e0];simp) (by rw[x1,y1,e1];simp) (by rw[x2,y2,e2];simp) (by rw[x3,y3,e3];simp) (by rw[x4,y4,e4];simp) (by rw[x5,y5];exact beq_false_of_ne e5)) fun e w' ⟨he,hb⟩=>⟨⟨false,he,⟨fun k=>(by cases k),fun k=>absurd (by rw[k]) e5⟩⟩,hb⟩
 have e5:=Classical.not_not.1 e5
 rcases Classical.em (P.payload≠Q.payload)with e6|e6
 ·exact Calls.mono (eqpk_no6 (by rw[x0,y0,e0];simp) (by rw[x1,y1,e1];simp) (by rw[x2,y2,e2];simp) (by rw[x3,y3,e3];simp) (by rw[x4,y4,e4];simp) (by rw[x5,y5,e5];simp) (by rw[x6,y6];exact beq_false_of_ne (fun k=>e6 (text_ext k)))) fun e w' ⟨he,hb⟩=>⟨⟨false,he,⟨fun k=>(by cases k),fun k=>absurd (by rw[k]) e6⟩⟩,hb⟩
 have e6:=Classical.not_not.1 e6
 rcases Classical.em (P.props≠Q.props)with e7|e7
 ·exact Calls.mono (eqpk_no7 (by rw[x0,y0,e0];simp) (by rw[x1,y1,e1];simp) (by rw[x2,y2,e2];simp) (by rw[x3,y3,e3];simp) (by rw[x4,y4,e4];simp) (by rw[x5,y5,e5];simp) (by rw[x6,y6,e6];simp) (tells_props hp.props hq.props hs.props false ⟨fun k=>(by cases k),fun k=>absurd k e7⟩)) fun e w' ⟨he,hb⟩=>⟨⟨false,he,⟨fun k=>(by cases k),fun k=>absurd (by rw[k]) e7⟩⟩,hb⟩
 have e7:=Classical.not_not.1 e7
 rcases Classical.em (P.client≠Q.client)with e8|e8
 ·exact Calls.mono (eqpk_no8 (by rw[x0,y0,e0];simp) (by rw[x1,y1,e1];simp) (by rw[x2,y2,e2];simp) (by rw[x3,y3,e3];simp) (by rw[x4,y4,e4];simp) (by rw[x5,y5,e5];simp) (by rw[x6,y6,e6];simp) (tells_props hp.props hq.props hs.props true ⟨fun _=>e7,fun _=>rfl⟩) (by rw[x7,y7];exact beq_false_of_ne (fun k=>e8 (text_ext k)))) fun e w' ⟨he,hb⟩=>⟨⟨false,he,⟨fun k=>(by cases k),fun k=>absurd (by rw[k]) e8⟩⟩,hb⟩
 have e8:=Classical.not_not.1 e8
 rcases Classical.em (P.clean≠Q.clean)with e9|e9
 ·exact Calls.mono (eqpk_no9 (by rw[x0,y0,e0];simp) (by rw[x1,y1,e1];simp) (by rw[x2,y2,e2];simp) (by rw[x3,y3,e3];simp) (by rw[x4,y4,e4];simp) (by rw[x5,y5,e5];simp) (by rw[x6,y6,e6];simp) (tells_props hp.props hq.props hs.props true ⟨fun _=>e7,fun _=>rfl⟩) (by rw[x7,y7,e8];simp) (by rw[x8,y8];exact beq_false_of_ne e9)) fun e w' ⟨he,hb⟩=>⟨⟨false,he,⟨fun k=>(by cases k),fun k=>absurd (by rw[k]) e9⟩⟩,hb⟩
 have e9:=Classical.not_not.1 e9
 rcases Classical.em (P.keep≠Q.keep)with e10|e10
 ·exact Calls.mono (eqpk_no10 (by rw[x0,y0,e0];simp) (by rw[x1,y1,e1];simp) (by rw[x2,y2,e2];simp) (by rw[x3,y3,e3];simp) (by rw[x4,y4,e4];simp) (by rw[x5,y5,e5];simp) (by rw[x6,y6,e6];simp) (tells_props hp.props hq.props hs.props true ⟨fun _=>e7,fun _=>rfl⟩) (by rw[x7,y7,e8];simp) (by rw[x8,y8,e9];simp) (by rw[x9,y9];exact beq_false_of_ne e10)) fun e w' ⟨he,hb⟩=>⟨⟨false,he,⟨fun k=>(by cases k),fun k=>absurd (by rw[k]) e10⟩⟩,hb⟩
 have e10:=Classical.not_not.1 e10
 rcases Classical.em (P.wills≠Q.wills)with e11|e11
 ·exact Calls.mono (eqpk_no11 (by rw[x0,y0,e0];simp) (by rw[x1,y1,e1];simp) (by rw[x2,y2,e2];simp) (by rw[x3,y3,e3];simp) (by rw[x4,y4,e4];simp) (by rw[x5,y5,e5];simp) (by rw[x6,y6,e6];simp) (tells_props hp.props hq.props hs.props true ⟨fun _=>e7,fun _=>rfl⟩) (by rw[x7,y7,e8];simp) (by rw[x8,y8,e9];simp) (by rw[x9,y9,e10];simp) (tells_wills hp.wills hq.wills hs.wills false ⟨fun k=>(by cases k),fun k=>absurd k e11⟩)) fun e w' ⟨he,hb⟩=>⟨⟨false,he,⟨fun k=>(by cases k),fun k=>absurd (by rw[k]) e11⟩⟩,hb⟩
 have e11:=Classical.not_not.1 e11
 rcases Classical.em (P.user≠Q.user)with e12|e12
 ·exact Calls.mono (eqpk_no12 (by rw[x0,y0,e0];simp) (by rw[x1,y1,e1];simp) (by rw[x2,y2,e2];simp) (by rw[x3,y3,e3];simp) (by rw[x4,y4,e4];simp) (by rw[x5,y5,e5];simp) (by rw[x6,y6,e6];simp) (tells_props hp.props hq.props hs.props true ⟨fun _=>e7,fun _=>rfl⟩) (by rw[x7,y7,e8];simp) (by rw[x8,y8,e9];simp) (by rw[x9,y9,e10];simp) (tells_wills hp.wills hq.wills hs.wills true ⟨fun _=>e11,fun _=>rfl⟩) (tells_strs hp.user hq.user false ⟨fun k=>(by cases k),fun k=>absurd k e12⟩)) fun e w' ⟨he,hb⟩=>⟨⟨false,he,⟨fun k=>(by cases k),fun k=>absurd (by rw[k]) e12⟩⟩,hb⟩
 have e12:=Classical.not_not.1 e12
 rcases Classical.em (P.pass≠Q.pass)with e13|e13
 ·exact Calls.mono (eqpk_no13 (by rw[x0,y0,e0];simp) (by rw[x1,y1,e1];simp) (by rw[x2,y2,e2];simp) (by rw[x3,y3,e3];simp) (by rw[x4,y4,e4];simp) (by rw[x5,y5,e5];simp) (by rw[x6,y6,e6];simp) (tells_props hp.props hq.props hs.props true ⟨fun _=>e7,fun _=>rfl⟩) (by rw[x7,y7,e8];simp) (by rw[x8,y8,e9];simp) (by rw[x9,y9,e10];simp) (tells_wills hp.wills hq.wills hs.wills true ⟨fun _=>e11,fun _=>rfl⟩) (tells_strs hp.user hq.user true ⟨fun _=>e12,fun _=>rfl⟩) (tells_strs hp.pass hq.pass false ⟨fun k=>(by cases k),fun k=>absurd k e13⟩)) fun e w' ⟨he,hb⟩=>⟨⟨false,he,⟨fun k=>(by cases k),fun k=>absurd (by rw[k]) e13⟩⟩,hb⟩
 have e13:=Classical.not_not.1 e13
 rcases Classical.em (P.code≠Q.code)with e14|e14
 ·exact Calls.mono (eqpk_no14 (by rw[x0,y0,e0];simp) (by rw[x1,y1,e1];simp) (by rw[x2,y2,e2];simp) (by rw[x3,y3,e3];simp) (by rw[x4,y4,e4];simp) (by rw[x5,y5,e5];simp) (by rw[x6,y6,e6];simp) (tells_props hp.props hq.props hs.props true ⟨fun _=>e7,fun _=>rfl⟩) (by rw[x7,y7,e8];simp) (by rw[x8,y8,e9];simp) (by rw[x9,y9,e10];simp) (tells_wills hp.wills hq.wills hs.wills true ⟨fun _=>e11,fun _=>rfl⟩) (tells_strs hp.user hq.user true ⟨fun _=>e12,fun _=>rfl⟩) (tells_strs hp.pass hq.pass true ⟨fun _=>e13,fun _=>rfl⟩) (by rw[x10,y10];exact beq_false_of_ne e14)) fun e w' ⟨he,hb⟩=>⟨⟨false,he,⟨fun k=>(by cases k),fun k=>absurd (by rw[k]) e14⟩⟩,hb⟩
 have e14:=Classical.not_not.1 e14
 rcases Classical.em (P.session≠Q.session)with e15|e15
 ·exact Calls.mono (eqpk_no15 (by rw[x0,y0,e0];simp) (by rw[x1,y1,e1];simp) (by rw[x2,y2,e2];simp) (by rw[x3,y3,e3];simp) (by rw[x4,y4,e4];simp) (by rw[x5,y5,e5];simp) (by rw[x6,y6,e6];simp) (tells_props hp.props hq.props hs.props true ⟨fun _=>e7,fun _=>rfl⟩) (by rw[x7,y7,e8];simp) (by rw[x8,y8,e9];simp) (by rw[x9,y9,e10];simp) (tells_wills hp.wills hq.wills hs.wills true ⟨fun _=>e11,fun _=>rfl⟩) (tells_strs hp.user hq.user true ⟨fun _=>e12,fun _=>rfl⟩) (tells_strs hp.pass hq.pass true ⟨fun _=>e13,fun _=>rfl⟩) (by rw[x10,y10,e14];simp) (by rw[x11,y11];exact beq_false_of_ne e15)) fun e w' ⟨he,hb⟩=>⟨⟨false,he,⟨fun k=>(by cases k),fun k=>absurd (by rw[k]) e15⟩⟩,hb⟩
 have e15:=Classical.not_not.1 e15
 rcases Classical.em (P.subs≠Q.subs)with e16|e16
 ·exact Calls.mono (eqpk_no16 (by rw[x0,y0,e0];simp) (by rw[x1,y1,e1];simp) (by rw[x2,y2,e2];simp) (by rw[x3,y3,e3];simp) (by rw[x4,y4,e4];simp) (by rw[x5,y5,e5];simp) (by rw[x6,y6,e6];simp) (tells_props hp.props hq.props hs.props true ⟨fun _=>e7,fun _=>rfl⟩) (by rw[x7,y7,e8];simp) (by rw[x8,y8,e9];simp) (by rw[x9,y9,e10];simp) (tells_wills hp.wills hq.wills hs.wills true ⟨fun _=>e11,fun _=>rfl⟩) (tells_strs hp.user hq.user true ⟨fun _=>e12,fun _=>rfl⟩) (tells_strs hp.pass hq.pass true ⟨fun _=>e13,fun _=>rfl⟩) (by rw[x10,y10,e14];simp) (by rw[x11,y11,e15];simp) (tells_subs hp.subs hq.subs hs.subs false ⟨fun k=>(by cases k),fun k=>absurd k e16⟩)) fun e w' ⟨he,hb⟩=>⟨⟨false,he,⟨fun k=>(by cases k),fun k=>absurd (by rw[k]) e16⟩⟩,hb⟩
 have e16:=Classical.not_not.1 e16
 rcases Classical.em (P.filters≠Q.filters)with e17|e17
 ·exact Calls.mono (eqpk_no17 (by rw[x0,y0,e0];simp) (by rw[x1,y1,e1];simp) (by rw[x2,y2,e2];simp) (by rw[x3,y3,e3];simp) (by rw[x4,y4,e4];simp) (by rw[x5,y5,e5];simp) (by rw[x6,y6,e6];simp) (tells_props hp.props hq.props hs.props true ⟨fun _=>e7,fun _=>rfl⟩) (by rw[x7,y7,e8];simp) (by rw[x8,y8,e9];simp) (by rw[x9,y9,e10];simp) (tells_wills hp.wills hq.wills hs.wills true ⟨fun _=>e11,fun _=>rfl⟩) (tells_strs hp.user hq.user true ⟨fun _=>e12,fun _=>rfl⟩) (tells_strs hp.pass hq.pass true ⟨fun _=>e13,fun _=>rfl⟩) (by rw[x10,y10,e14];simp) (by rw[x11,y11,e15];simp) (tells_subs hp.subs hq.subs hs.subs true ⟨fun _=>e16,fun _=>rfl⟩) (tells_strs hp.filters hq.filters false ⟨fun k=>(by cases k),fun k=>absurd k e17⟩)) fun e w' ⟨he,hb⟩=>⟨⟨false,he,⟨fun k=>(by cases k),fun k=>absurd (by rw[k]) e17⟩⟩,hb⟩
 have e17:=Classical.not_not.1 e17
 rcases Classical.em (P.codes≠Q.codes)with e18|e18
 ·exact Calls.mono (eqpk_no18 (by rw[x0,y0,e0];simp) (by rw[x1,y1,e1];simp) (by rw[x2,y2,e2];simp) (by rw[x3,y3,e3];simp) (by rw[x4,y4,e4];simp) (by rw[x5,y5,e5];simp) (by rw[x6,y6,e6];simp) (tells_props hp.props hq.props hs.props true ⟨fun _=>e7,fun _=>rfl⟩) (by rw[x7,y7,e8];simp) (by rw[x8,y8,e9];simp) (by rw[x9,y9,e10];simp) (tells_wills hp.wills hq.wills hs.wills true ⟨fun _=>e11,fun _=>rfl⟩) (tells_strs hp.user hq.user true ⟨fun _=>e12,fun _=>rfl⟩) (tells_strs hp.pass hq.pass true ⟨fun _=>e13,fun _=>rfl⟩) (by rw[x10,y10,e14];simp) (by rw[x11,y11,e15];simp) (tells_subs hp.subs hq.subs hs.subs true ⟨fun _=>e16,fun _=>rfl⟩) (tells_strs hp.filters hq.filters true ⟨fun _=>e17,fun _=>rfl⟩) (tells_nums hp.codes hq.codes false ⟨fun k=>(by cases k),fun k=>absurd k e18⟩)) fun e w' ⟨he,hb⟩=>⟨⟨false,he,⟨fun k=>(by cases k),fun k=>absurd (by rw[k]) e18⟩⟩,hb⟩
 have e18:=Classical.not_not.1 e18
 exact (eqpk_yes _ _ _ _ _ _ _ _ _ _ _ _ _ _ _ _ _ _ _ _ _ _ _ _ _ _ _ _ _ _ _ _ _ _ _ _ _ _ w (by rw[x0,y0,e0];simp) (by rw[x1,y1,e1];simp) (by rw[x2,y2,e2];simp) (by rw[x3,y3,e3];simp) (by rw[x4,y4,e4];simp) (by rw[x5,y5,e5];simp) (by rw[x6,y6,e6];simp) (tells_props hp.props hq.props hs.props true ⟨fun _=>e7,fun _=>rfl⟩) (by rw[x7,y7,e8];simp) (by rw[x8,y8,e9];simp) (by rw[x9,y9,e10];simp) (tells_wills hp.wills hq.wills hs.wills true ⟨fun _=>e11,fun _=>rfl⟩) (tells_strs hp.user hq.user true ⟨fun _=>e12,fun _=>rfl⟩) (tells_strs hp.pass hq.pass true ⟨fun _=>e13,fun _=>rfl⟩) (by rw[x10,y10,e14];simp) (by rw[x11,y11,e15];simp) (tells_subs hp.subs hq.subs hs.subs true ⟨fun _=>e16,fun _=>rfl⟩) (tells_strs hp.filters hq.filters true ⟨fun _=>e17,fun _=>rfl⟩) (tells_nums hp.codes hq.codes true ⟨fun _=>e18,fun _=>rfl⟩)).mono fun e w' ⟨he,hb⟩=>⟨⟨true,he,⟨fun _=>(by
  obtain⟨p0,p1,p2,p3,p4,p5,p6,p7,p8,p9,p10,p11,p12,p13,p14,p15,p16,p17,p18⟩:=P
  obtain⟨q0,q1,q2,q3,q4,q5,q6,q7,q8,q9,q10,q11,q12,q13,q14,q15,q16,q17,q18⟩:=Q
  exact Pa.mk.injEq .. ▸ ⟨e0,e1,e2,e3,e4,e5,e6,e7,e8,e9,e10,e11,e12,e13,e14,e15,e16,e17,e18⟩),fun _=>rfl⟩⟩,hb⟩
def tlB (P:Pa) (c E:Bool):Bool:=c&&(E&&(decide (P.props.length=0)||okP P.kind P.props))
def pubO (topic:ByteArray) (qos id:Int) (dup:Bool):Bool:=okT topic&&(decide (0<=qos)&&(decide (qos<=2)&&(if qos=0 then decide (id=0) && !dup else idO id)))
def con0 (client:ByteArray) (keep:Int) (nw nu np:Nat):Bool:=okT client&&(decide (0<=keep)&&(decide (keep<=65535)&&(decide (nw<=1)&&(decide (nu<=1)&&decide (np<=1)))))
def con1 (ws:List Wl):Bool:=if ws.length=1 then mwB (ws.getD 0 wl0) else true
def con2 (us:List ByteArray):Bool:=if us.length=1 then okT (us.getD 0 ⟨#[]⟩) else true
def con3 (ps:List ByteArray):Bool:=if ps.length=1 then okB (ps.getD 0 ⟨#[]⟩) else true
def conO (client:ByteArray) (keep:Int) (ws:List Wl) (us ps:List ByteArray):Bool:=con0 client keep ws.length us.length ps.length&&(con1 ws&&(con2 us&&con3 ps))
theorem may_connA (q:Pkv) (P:Pa) (w:World) (hR:RPk w q P) (hmx:P.props.length<=1000000000) (hsm:Go.Proofs.YtmpijpjlbhfccaaGreatDoor.Small P.props) (E:Bool) (hEQ:∀ W,Below w.heap.size w W->Calls Tryz.prog 12 #[.agg (((((((xk q).wi_client q.client).wi_clean q.clean).wi_keep q.keep).wi_wills q.wills).wi_user q.user).wi_pass q.pass).cells.toArray,.agg q.cells.toArray] W fun e w'=>e=.returned (.bool E)/\Below W.heap.size W w') (hcl:q.client.size<=4611686018427387904) (hWO:∀ k,k<P.wills.length->(P.wills.getD k wl0).topic.size<=4611686018427387904/\(P.wills.getD k wl0).props.length<=1000000000/\Go.Proofs.YtmpijpjlbhfccaaGreatDoor.Small (P.wills.getD k wl0).props/\(P.wills.getD k wl0).payload.size<=4611686018427387904) (hUO:∀ k,k<P.user.length->(P.user.getD k ⟨#[]⟩).size<=4611686018427387904) (hPOK:∀ k,k<P.pass.length->(P.pass.getD k ⟨#[]⟩).size<=4611686018427387904) (hc0:con0 q.client q.keep P.wills.length P.user.length P.pass.length=false) (hk:P.kind=1) :
  Calls Tryz.prog 27 #[q.val] w fun e w'=>e=.returned (.bool (tlB P (conO q.client q.keep P.wills P.user P.pass) E))/\Below w.heap.size w w':=by
 have HEQ:=zh hEQ
 have HMX0:=zh hmx
 have HSM:=zh hsm
 have HRP:=zh hR.props
 have HQN:=zh hR.cnt.ns.1
 have HKP:=zh hR.sc.1
 have hW:=hR.wills
 have hU:=hR.user
 have hPs:=hR.pass
 obtain⟨wo,wc,hwv,⟨hw1,hw2⟩,hWS⟩:=hW
 obtain⟨uo,uc,huv,⟨hu1,hu2⟩,hUS⟩:=hU
 obtain⟨po,pc,hpv,⟨hp1,hp2⟩,hPS⟩:=hPs
 have HWV:=zh hwv
 have HUV:=zh huv
 have HPV:=zh hpv
 have HWS:=zh hWS
 have HUS:=zh hUS
 have HPS:=zh hPS
 have HWO:=zh hWO
 have HUO:=zh hUO
 clear hwv huv hpv hWS hUS hPS hWO hUO
 obtain⟨nw,hnw⟩:∃ n,n=P.wills.length:=⟨_,rfl⟩
 obtain⟨nu,hnu⟩:∃ n,n=P.user.length:=⟨_,rfl⟩
 obtain⟨np,hnp⟩:∃ n,n=P.pass.length:=⟨_,rfl⟩
 rw[<- hnw]at HWV hw1
 rw[<- hnu]at HUV hu1
 rw[<- hnp]at HPV hp1
 have HNW:=zh hnw
 have HNU:=zh hnu
 have HNP:=zh hnp
 clear hnw hnu hnp
 have HPOK:=zh hPOK
 clear hPOK
 have HCN0:=zh hc0
 clear hc0
 have hk2:=hk
 rw[<- hR.sc.1]at hk2
 have HKK:=zh hk2
 have HSC:=zh hR
 clear hEQ hsm hR hk hk2
 have HPN:=zh (pk_new w q)
 have HMN:=zh (ms_new w q)
 have HX:Hid ((w.alloc (.cells q.cells.toArray 31)).heap.size=w.heap.size+1):=by show _=_;simp
 go_enter Tryz.func27,Tryz.ntmps27
 go_upto_region 1 with fail
 change Code.wp _ _ _ _ (w.alloc (.cells q.cells.toArray 31))
 generalize w.alloc (.cells q.cells.toArray 31)=wa at HPN HMN HX |-
 have c0:=(uh HPN).kind
 have c7:=(uh HPN).props
 iterate 13 go_step
 refine Go.Proofs.YtmpijpjlbhfccaaGreatDoor.wpList_value rfl (packet_build2 _ _ _ _ _ _ _ q rfl rfl _) ?_
 simp only[sp]
 refine Go.Proofs.YtmpijpjlbhfccaaGreatDoor.wpList_value rfl (mpacket_alloc _ _ _ _ _ _) ?_
 simp only[sp]
 refine Go.Proofs.YtmpijpjlbhfccaaGreatDoor.wpList_skip rfl (mpacket_store _ _ _ _ _ _ _ (xk q) wa rfl rfl) ?_
 simp only[Act.put]
 have HM:Hid (MS w (wa.alloc (.cells (xk q).cells.toArray 31)) w.heap.size wa.heap.size q (xk q)):=by rw[uh HX];exact uh HMN
 generalize wa.alloc (.cells (xk q).cells.toArray 31)=w1 at HM |-
 generalize wa.heap.size=X at HM |-
 generalize hBB:w.heap.size=B at HM |-
 have HBB:=zh hBB
 clear c0 c7 HPN HMN HX hBB
 have c0:=(uh HM).pb.kind
 rw[uh HKK]at c0
 go_wp2_with fail
 have HMd0:Hid (MS w w1.drew B X q (xk q)):=(uh HM).below (below_drewN (Below.refl _ _) 1)
 clear HM c0
 refine wp_region_noPanic ?_
 refine wp_region_held_drew (S:=(fun w'=>w'.cell? ⟨B,8,none⟩=some (.string q.client)/\w'.cell? ⟨B,9,none⟩=some (.bool q.clean)/\w'.cell? ⟨B,10,none⟩=some (.int .i64 q.keep)/\w'.cell? ⟨B,11,none⟩=some (q.wills.val)/\w'.cell? ⟨B,12,none⟩=some (q.user.val)/\w'.cell? ⟨B,13,none⟩=some (q.pass.val))) (by kernel_rfl) ⟨(uh HMd0).pb.client,(uh HMd0).pb.clean,(uh HMd0).pb.keep,(uh HMd0).pb.wills,(uh HMd0).pb.user,(uh HMd0).pb.pass⟩ (fun hHeld=>?_)
 generalize w1.drew=wd0 at HMd0 hHeld |-
 refine rtk 0 (h:=?_)
 refine rtk 1 (h:=?_)
 refine rtk 2 (h:=?_)
 refine rtk 3 (h:=?_)
 refine rtk 4 (h:=?_)
 refine rtk 5 (h:=?_)
 refine rtk 6 (h:=?_)
 refine rtk 7 (h:=?_)
 refine rtk 8 (h:=?_)
 refine rtk 9 (h:=?_)
 refine rtk 10 (h:=?_)
 refine rtk 11 (h:=?_)
 refine rtk 12 (h:=?_)
 have x8:=(uh HMd0).px.client
 have y8:=(uh HMd0).px.client_f
 have HMd1:=zh ((uh HMd0).wi_client q.client)
 refine rcl 13 (h:=fun K hK=>?_)
 go_simp
 refine hK.out _ _ ⟨(uh HMd1).pb.client,(uh HMd1).pb.clean,(uh HMd1).pb.keep,(uh HMd1).pb.wills,(uh HMd1).pb.user,(uh HMd1).pb.pass⟩ (fun hHeld=>?_)
 clear hK K x8 y8 HMd0
 generalize World.setCell _ ⟨X,8,none⟩ (.string q.client)=wd1 at HMd1 hHeld |-
 refine rtk 14 (h:=?_)
 have x9:=(uh HMd1).px.clean
 have y9:=(uh HMd1).px.clean_f
 have HMd2:=zh ((uh HMd1).wi_clean q.clean)
 refine rcl 15 (h:=fun K hK=>?_)
 go_simp
 refine hK.out _ _ ⟨(uh HMd2).pb.client,(uh HMd2).pb.clean,(uh HMd2).pb.keep,(uh HMd2).pb.wills,(uh HMd2).pb.user,(uh HMd2).pb.pass⟩ (fun hHeld=>?_)
 clear hK K x9 y9 HMd1
 generalize World.setCell _ ⟨X,9,none⟩ (.bool q.clean)=wd2 at HMd2 hHeld |-
 refine rtk 16 (h:=?_)
 have x10:=(uh HMd2).px.keep
 have y10:=(uh HMd2).px.keep_f
 have HMd3:=zh ((uh HMd2).wi_keep q.keep)
 refine rcl 17 (h:=fun K hK=>?_)
 go_simp
 refine hK.out _ _ ⟨(uh HMd3).pb.client,(uh HMd3).pb.clean,(uh HMd3).pb.keep,(uh HMd3).pb.wills,(uh HMd3).pb.user,(uh HMd3).pb.pass⟩ (fun hHeld=>?_)
 clear hK K x10 y10 HMd2
 generalize World.setCell _ ⟨X,10,none⟩ (.int .i64 q.keep)=wd3 at HMd3 hHeld |-
 refine rtk 18 (h:=?_)
 have x11:=(uh HMd3).px.wills
 have y11:=(uh HMd3).px.wills_f
 have HMd4:=zh ((uh HMd3).wi_wills q.wills)
 refine rcl 19 (h:=fun K hK=>?_)
 go_simp
 refine hK.out _ _ ⟨(uh HMd4).pb.client,(uh HMd4).pb.clean,(uh HMd4).pb.keep,(uh HMd4).pb.wills,(uh HMd4).pb.user,(uh HMd4).pb.pass⟩ (fun hHeld=>?_)
 clear hK K x11 y11 HMd3
 generalize World.setCell _ ⟨X,11,none⟩ (q.wills.val)=wd4 at HMd4 hHeld |-
 refine rtk 20 (h:=?_)
 have x12:=(uh HMd4).px.user
 have y12:=(uh HMd4).px.user_f
 have HMd5:=zh ((uh HMd4).wi_user q.user)
 refine rcl 21 (h:=fun K hK=>?_)
 go_simp
 refine hK.out _ _ ⟨(uh HMd5).pb.client,(uh HMd5).pb.clean,(uh HMd5).pb.keep,(uh HMd5).pb.wills,(uh HMd5).pb.user,(uh HMd5).pb.pass⟩ (fun hHeld=>?_)
 clear hK K x12 y12 HMd4
 generalize World.setCell _ ⟨X,12,none⟩ (q.user.val)=wd5 at HMd5 hHeld |-
 refine rtk 22 (h:=?_)
 have x13:=(uh HMd5).px.pass
 have y13:=(uh HMd5).px.pass_f
 have HMd6:=zh ((uh HMd5).wi_pass q.pass)
 refine rcl 23 (h:=fun K hK=>?_)
 go_simp
 refine hK.out _ _ ⟨(uh HMd6).pb.client,(uh HMd6).pb.clean,(uh HMd6).pb.keep,(uh HMd6).pb.wills,(uh HMd6).pb.user,(uh HMd6).pb.pass⟩ (fun hHeld=>?_)
 clear hK K x13 y13 HMd5
 generalize World.setCell _ ⟨X,13,none⟩ (q.pass.val)=wd6 at HMd6 hHeld |-
 refine wpAnyH_done (by kernel_rfl) ?_ _
 refine NoPanic.normal ?_
 have HM:=HMd6
 clear HMd6 hHeld
 have b8:=(uh HM).pb.client
 have b10:=(uh HM).pb.keep
 have b11:=(uh HM).pb.wills
 have b12:=(uh HM).pb.user
 have b13:=(uh HM).pb.pass
 rw[uh HWV]at b11
 rw[uh HUV]at b12
 rw[uh HPV]at b13
 go_upto_region 7 with fail
 go_cut [4] from 8 (fun s4 wx=>∃ c:Bool,s4=.bool c/\Hid (c=con0 q.client q.keep nw nu np)/\Hid (MS w wx B X q (((((((xk q).wi_client q.client).wi_clean q.clean).wi_keep q.keep).wi_wills q.wills).wi_user q.user).wi_pass q.pass)))
 case first =>
  cases ht:okT q.client
  ·have HT:=zh ht
   clear ht
   go_wp2_with fail
   refine (gtext_any q.client false (uh HT) _ hcl).mono ?_
   rintro e w3 ⟨rfl,hb3⟩
   have HM3:=zh ((uh HM).below hb3)
   clear hb3 HM
   have HM:=HM3
   clear HM3
   go_wp2
   go_meet
   case rel=>exact⟨false,rfl,by show _=_;unfold con0;rw[uh HT];rfl,HM⟩
  ·have HT:=zh ht
   clear ht
   go_wp2_with fail
   refine (gtext_any q.client true (uh HT) _ hcl).mono ?_
   rintro e w3 ⟨rfl,hb3⟩
   have HM3:=zh ((uh HM).below hb3)
   clear hb3 HM b8 b10 b11 b12 b13
   have HM:=HM3
   clear HM3
   have b8:=(uh HM).pb.client
   have b10:=(uh HM).pb.keep
   have b11:=(uh HM).pb.wills
   have b12:=(uh HM).pb.user
   have b13:=(uh HM).pb.pass
   rw[uh HWV]at b11
   rw[uh HUV]at b12
   rw[uh HPV]at b13
   generalize hkp:q.keep=kp at b10
   have HKPP:=zh hkp
   clear hkp
   by_cases h1:0<=kp
   ·by_cases h2:kp<=65535
    ·by_cases h3:nw<=1
     ·by_cases h4:nu<=1
      ·go_wp2
       go_meet
       case rel=>exact⟨decide ((np:Int)<=1),rfl,by show _=_;unfold con0;rw[uh HT,uh HKPP,decide_eq_true h1,decide_eq_true h2,decide_eq_true h3,decide_eq_true h4,show decide ((np:Int)<=1)=decide (np<=1) from by rw[decide_eq_decide];omega];rfl,HM⟩
      ·go_wp2
       go_meet
       case rel=>exact⟨false,rfl,by show _=_;unfold con0;rw[uh HKPP,decide_eq_false (show ¬ nu<=1 from by omega)];simp,HM⟩
     ·go_wp2
      go_meet
      case rel=>exact⟨false,rfl,by show _=_;unfold con0;rw[uh HKPP,decide_eq_false (show ¬ nw<=1 from by omega)];simp,HM⟩
    ·go_wp2
     go_meet
     case rel=>exact⟨false,rfl,by show _=_;unfold con0;rw[uh HKPP,decide_eq_false (show ¬ kp<=65535 from by omega)];simp,HM⟩
   ·go_wp2
    go_meet
    case rel=>exact⟨false,rfl,by show _=_;unfold con0;rw[uh HKPP,decide_eq_false (show ¬ 0<=kp from by omega)];simp,HM⟩
 case rest =>
  obtain⟨c0,rfl,HC0,HMc⟩:=hcut
  obtain rfl:c0=false:=by rw[uh HC0,uh HNW,uh HNU,uh HNP];exact uh HCN0
  clear HM b8 b10 b11 b12 b13
  have HM:=HMc
  clear HMc
  have b8:=(uh HM).pb.client
  have b10:=(uh HM).pb.keep
  have b11:=(uh HM).pb.wills
  have b12:=(uh HM).pb.user
  have b13:=(uh HM).pb.pass
  rw[uh HWV]at b11
  rw[uh HUV]at b12
  rw[uh HPV]at b13
  have HR:Hid (tlB P (conO q.client q.keep P.wills P.user P.pass) E=false):=by show _=_;rw[show conO q.client q.keep P.wills P.user P.pass=false from by unfold conO;rw[uh HCN0];rfl];rfl
  go_wp2
  go_ret
  exact⟨by rw[uh HR];rfl,(uh HM).bel⟩
theorem may_connB (q:Pkv) (P:Pa) (w:World) (hR:RPk w q P) (hmx:P.props.length<=1000000000) (hsm:Go.Proofs.YtmpijpjlbhfccaaGreatDoor.Small P.props) (E:Bool) (hEQ:∀ W,Below w.heap.size w W->Calls Tryz.prog 12 #[.agg (((((((xk q).wi_client q.client).wi_clean q.clean).wi_keep q.keep).wi_wills q.wills).wi_user q.user).wi_pass q.pass).cells.toArray,.agg q.cells.toArray] W fun e w'=>e=.returned (.bool E)/\Below W.heap.size W w') (hcl:q.client.size<=4611686018427387904) (hWO:∀ k,k<P.wills.length->(P.wills.getD k wl0).topic.size<=4611686018427387904/\(P.wills.getD k wl0).props.length<=1000000000/\Go.Proofs.YtmpijpjlbhfccaaGreatDoor.Small (P.wills.getD k wl0).props/\(P.wills.getD k wl0).payload.size<=4611686018427387904) (hUO:∀ k,k<P.user.length->(P.user.getD k ⟨#[]⟩).size<=4611686018427387904) (hPOK:∀ k,k<P.pass.length->(P.pass.getD k ⟨#[]⟩).size<=4611686018427387904) (hc0:con0 q.client q.keep P.wills.length P.user.length P.pass.length=true) (hc1:con1 P.wills=false) (hk:P.kind=1) :
  Calls Tryz.prog 27 #[q.val] w fun e w'=>e=.returned (.bool (tlB P (conO q.client q.keep P.wills P.user P.pass) E))/\Below w.heap.size w w':=by
 have HEQ:=zh hEQ
 have HMX0:=zh hmx
 have HSM:=zh hsm
 have HRP:=zh hR.props
 have HQN:=zh hR.cnt.ns.1
 have HKP:=zh hR.sc.1
 have hW:=hR.wills
 have hU:=hR.user
 have hPs:=hR.pass
 obtain⟨wo,wc,hwv,⟨hw1,hw2⟩,hWS⟩:=hW
 obtain⟨uo,uc,huv,⟨hu1,hu2⟩,hUS⟩:=hU
 obtain⟨po,pc,hpv,⟨hp1,hp2⟩,hPS⟩:=hPs
 have HWV:=zh hwv
 have HUV:=zh huv
 have HPV:=zh hpv
 have HWS:=zh hWS
 have HUS:=zh hUS
 have HPS:=zh hPS
 have HWO:=zh hWO
 have HUO:=zh hUO
 clear hwv huv hpv hWS hUS hPS hWO hUO
 obtain⟨nw,hnw⟩:∃ n,n=P.wills.length:=⟨_,rfl⟩
 obtain⟨nu,hnu⟩:∃ n,n=P.user.length:=⟨_,rfl⟩
 obtain⟨np,hnp⟩:∃ n,n=P.pass.length:=⟨_,rfl⟩
 rw[<- hnw]at HWV hw1
 rw[<- hnu]at HUV hu1
 rw[<- hnp]at HPV hp1
 have HNW:=zh hnw
 have HNU:=zh hnu
 have HNP:=zh hnp
 clear hnw hnu hnp
 have HPOK:=zh hPOK
 clear hPOK
 have HC0:=zh hc0
 clear hc0
 have HC1:=zh hc1
 clear hc1
 have hk2:=hk
 rw[<- hR.sc.1]at hk2
 have HKK:=zh hk2
 have HSC:=zh hR
 clear hEQ hsm hR hk hk2
 have HPN:=zh (pk_new w q)
 have HMN:=zh (ms_new w q)
 have HX:Hid ((w.alloc (.cells q.cells.toArray 31)).heap.size=w.heap.size+1):=by show _=_;simp
 go_enter Tryz.func27,Tryz.ntmps27
 go_upto_region 1 with fail
 change Code.wp _ _ _ _ (w.alloc (.cells q.cells.toArray 31))
 generalize w.alloc (.cells q.cells.toArray 31)=wa at HPN HMN HX |-
 have c0:=(uh HPN).kind
 have c7:=(uh HPN).props
 iterate 13 go_step
 refine Go.Proofs.YtmpijpjlbhfccaaGreatDoor.wpList_value rfl (packet_build2 _ _ _ _ _ _ _ q rfl rfl _) ?_
 simp only[sp]
 refine Go.Proofs.YtmpijpjlbhfccaaGreatDoor.wpList_value rfl (mpacket_alloc _ _ _ _ _ _) ?_
 simp only[sp]
 refine Go.Proofs.YtmpijpjlbhfccaaGreatDoor.wpList_skip rfl (mpacket_store _ _ _ _ _ _ _ (xk q) wa rfl rfl) ?_
 simp only[Act.put]
 have HM:Hid (MS w (wa.alloc (.cells (xk q).cells.toArray 31)) w.heap.size wa.heap.size q (xk q)):=by rw[uh HX];exact uh HMN
 generalize wa.alloc (.cells (xk q).cells.toArray 31)=w1 at HM |-
 generalize wa.heap.size=X at HM |-
 generalize hBB:w.heap.size=B at HM |-
 have HBB:=zh hBB
 clear c0 c7 HPN HMN HX hBB
 have c0:=(uh HM).pb.kind
 rw[uh HKK]at c0
 go_wp2_with fail
 have HMd0:Hid (MS w w1.drew B X q (xk q)):=(uh HM).below (below_drewN (Below.refl _ _) 1)
 clear HM c0
 refine wp_region_noPanic ?_
 refine wp_region_held_drew (S:=(fun w'=>w'.cell? ⟨B,8,none⟩=some (.string q.client)/\w'.cell? ⟨B,9,none⟩=some (.bool q.clean)/\w'.cell? ⟨B,10,none⟩=some (.int .i64 q.keep)/\w'.cell? ⟨B,11,none⟩=some (q.wills.val)/\w'.cell? ⟨B,12,none⟩=some (q.user.val)/\w'.cell? ⟨B,13,none⟩=some (q.pass.val))) (by kernel_rfl) ⟨(uh HMd0).pb.client,(uh HMd0).pb.clean,(uh HMd0).pb.keep,(uh HMd0).pb.wills,(uh HMd0).pb.user,(uh HMd0).pb.pass⟩ (fun hHeld=>?_)
 generalize w1.drew=wd0 at HMd0 hHeld |-
 refine rtk 0 (h:=?_)
 refine rtk 1 (h:=?_)
 refine rtk 2 (h:=?_)
 refine rtk 3 (h:=?_)
 refine rtk 4 (h:=?_)
 refine rtk 5 (h:=?_)
 refine rtk 6 (h:=?_)
 refine rtk 7 (h:=?_)
 refine rtk 8 (h:=?_)
 refine rtk 9 (h:=?_)
 refine rtk 10 (h:=?_)
 refine rtk 11 (h:=?_)
 refine rtk 12 (h:=?_)
 have x8:=(uh HMd0).px.client
 have y8:=(uh HMd0).px.client_f
 have HMd1:=zh ((uh HMd0).wi_client q.client)
 refine rcl 13 (h:=fun K hK=>?_)
 go_simp
 refine hK.out _ _ ⟨(uh HMd1).pb.client,(uh HMd1).pb.clean,(uh HMd1).pb.keep,(uh HMd1).pb.wills,(uh HMd1).pb.user,(uh HMd1).pb.pass⟩ (fun hHeld=>?_)
 clear hK K x8 y8 HMd0
 generalize World.setCell _ ⟨X,8,none⟩ (.string q.client)=wd1 at HMd1 hHeld |-
 refine rtk 14 (h:=?_)
 have x9:=(uh HMd1).px.clean
 have y9:=(uh HMd1).px.clean_f
 have HMd2:=zh ((uh HMd1).wi_clean q.clean)
 refine rcl 15 (h:=fun K hK=>?_)
 go_simp
 refine hK.out _ _ ⟨(uh HMd2).pb.client,(uh HMd2).pb.clean,(uh HMd2).pb.keep,(uh HMd2).pb.wills,(uh HMd2).pb.user,(uh HMd2).pb.pass⟩ (fun hHeld=>?_)
 clear hK K x9 y9 HMd1
 generalize World.setCell _ ⟨X,9,none⟩ (.bool q.clean)=wd2 at HMd2 hHeld |-
 refine rtk 16 (h:=?_)
 have x10:=(uh HMd2).px.keep
 have y10:=(uh HMd2).px.keep_f
 have HMd3:=zh ((uh HMd2).wi_keep q.keep)
 refine rcl 17 (h:=fun K hK=>?_)
 go_simp
 refine hK.out _ _ ⟨(uh HMd3).pb.client,(uh HMd3).pb.clean,(uh HMd3).pb.keep,(uh HMd3).pb.wills,(uh HMd3).pb.user,(uh HMd3).pb.pass⟩ (fun hHeld=>?_)
 clear hK K x10 y10 HMd2
 generalize World.setCell _ ⟨X,10,none⟩ (.int .i64 q.keep)=wd3 at HMd3 hHeld |-
 refine rtk 18 (h:=?_)
 have x11:=(uh HMd3).px.wills
 have y11:=(uh HMd3).px.wills_f
 have HMd4:=zh ((uh HMd3).wi_wills q.wills)
 refine rcl 19 (h:=fun K hK=>?_)
 go_simp
 refine hK.out _ _ ⟨(uh HMd4).pb.client,(uh HMd4).pb.clean,(uh HMd4).pb.keep,(uh HMd4).pb.wills,(uh HMd4).pb.user,(uh HMd4).pb.pass⟩ (fun hHeld=>?_)
 clear hK K x11 y11 HMd3
 generalize World.setCell _ ⟨X,11,none⟩ (q.wills.val)=wd4 at HMd4 hHeld |-
 refine rtk 20 (h:=?_)
 have x12:=(uh HMd4).px.user
 have y12:=(uh HMd4).px.user_f
 have HMd5:=zh ((uh HMd4).wi_user q.user)
 refine rcl 21 (h:=fun K hK=>?_)
 go_simp
 refine hK.out _ _ ⟨(uh HMd5).pb.client,(uh HMd5).pb.clean,(uh HMd5).pb.keep,(uh HMd5).pb.wills,(uh HMd5).pb.user,(uh HMd5).pb.pass⟩ (fun hHeld=>?_)
 clear hK K x12 y12 HMd4
 generalize World.setCell _ ⟨X,12,none⟩ (q.user.val)=wd5 at HMd5 hHeld |-
 refine rtk 22 (h:=?_)
 have x13:=(uh HMd5).px.pass
 have y13:=(uh HMd5).px.pass_f
 have HMd6:=zh ((uh HMd5).wi_pass q.pass)
 refine rcl 23 (h:=fun K hK=>?_)
 go_simp
 refine hK.out _ _ ⟨(uh HMd6).pb.client,(uh HMd6).pb.clean,(uh HMd6).pb.keep,(uh HMd6).pb.wills,(uh HMd6).pb.user,(uh HMd6).pb.pass⟩ (fun hHeld=>?_)
 clear hK K x13 y13 HMd5
 generalize World.setCell _ ⟨X,13,none⟩ (q.pass.val)=wd6 at HMd6 hHeld |-
 refine wpAnyH_done (by kernel_rfl) ?_ _
 refine NoPanic.normal ?_
 have HM:=HMd6
 clear HMd6 hHeld
 have b8:=(uh HM).pb.client
 have b10:=(uh HM).pb.keep
 have b11:=(uh HM).pb.wills
 have b12:=(uh HM).pb.user
 have b13:=(uh HM).pb.pass
 rw[uh HWV]at b11
 rw[uh HUV]at b12
 rw[uh HPV]at b13
 obtain⟨HT,h1,h2,h3,h4,h5⟩:Hid (okT q.client=true)/\0<=q.keep/\q.keep<=65535/\nw<=1/\nu<=1/\np<=1:=by
  have k:=uh HC0
  rw[<- uh HNW,<- uh HNU,<- uh HNP]at k
  unfold con0 at k
  simp only[Bool.and_eq_true,decide_eq_true_iff]at k
  exact k
 go_wp2_with fail
 refine (gtext_any q.client true (uh HT) _ hcl).mono ?_
 rintro e w3 ⟨rfl,hb3⟩
 have HM3:=zh ((uh HM).below hb3)
 clear hb3 HM b8 b10 b11 b12 b13
 have HM:=HM3
 clear HM3
 have b8:=(uh HM).pb.client
 have b10:=(uh HM).pb.keep
 have b11:=(uh HM).pb.wills
 have b12:=(uh HM).pb.user
 have b13:=(uh HM).pb.pass
 rw[uh HWV]at b11
 rw[uh HUV]at b12
 rw[uh HPV]at b13
 obtain⟨kp,hkp⟩:∃ z,z=q.keep:=⟨_,rfl⟩
 rw[<- hkp]at b10 h1 h2
 clear hkp
 have hl:nw=1:=by
  rw[uh HNW]
  exact Classical.byContradiction fun k=>by have:=uh HC1;unfold con1 at this;rw[if_neg k]at this;cases this
 subst hl
 have h0l:0<P.wills.length:=by rw[<- uh HNW];omega
 obtain⟨b,off,rfl,hat⟩:∃ b off,wo=some ⟨b,off,none⟩/\WlAt w b off P.wills:=by
  rcases uh HWS with e|k
  ·rw[e]at h0l;simp at h0l
  ·exact k
 have hat:=hat 0 h0l
 have hB:=(uh HM).bel
 obtain⟨ao,n,cap,⟨d0,d1,d2,d3,d4⟩,hpr,-⟩:=hat
 rw[Nat.zero_mul,Nat.add_zero]at d0 d1 d2 d3 d4
 have hbl:b<w.heap.size:=cell_lt d0
 have e0:=(hB.cell hbl).trans d0
 have e1:=(hB.cell hbl).trans d1
 have e2:=(hB.cell hbl).trans d2
 have e3:=(hB.cell hbl).trans d3
 have e4:=(hB.cell hbl).trans d4
 obtain⟨z1,z2,z3,z4⟩:=(uh HWO) 0 h0l
 have HZ3:=zh z3
 have HPR:=zh hpr
 have HCN:Hid (mwB (P.wills.getD 0 wl0)=con1 P.wills):=by show _=_;unfold con1;rw[if_pos (uh HNW).symm]
 generalize P.wills.getD 0 wl0=u at e0 e1 e2 e3 e4 z1 z2 z4 HZ3 HPR HCN
 clear d0 d1 d2 d3 d4 hpr z3 hB
 rw[uh HC1]at HCN
 obtain⟨hmw⟩:Nonempty (mwB u=false):=⟨uh HCN⟩
 have HMW:=zh hmw
 clear hmw
 go_wp2_with fail
 refine (mayWill_any u ao n cap _ ((uh HPR).below (uh HM).bel) z1 z2 (uh HZ3) z4).mono ?_
 rintro e w5 ⟨rfl,hb5⟩
 rw[uh HMW]
 have HM5:=zh ((uh HM).below hb5)
 clear hb5 HM
 have HM:=HM5
 clear HM5
 have HR:Hid (tlB P (conO q.client q.keep P.wills P.user P.pass) E=false):=by show _=_;rw[show conO q.client q.keep P.wills P.user P.pass=false from by unfold conO;rw[uh HC1];simp];rfl
 go_wp2
 go_ret
 exact⟨by rw[uh HR];rfl,(uh HM).bel⟩
theorem may_connC (q:Pkv) (P:Pa) (w:World) (hR:RPk w q P) (hmx:P.props.length<=1000000000) (hsm:Go.Proofs.YtmpijpjlbhfccaaGreatDoor.Small P.props) (E:Bool) (hEQ:∀ W,Below w.heap.size w W->Calls Tryz.prog 12 #[.agg (((((((xk q).wi_client q.client).wi_clean q.clean).wi_keep q.keep).wi_wills q.wills).wi_user q.user).wi_pass q.pass).cells.toArray,.agg q.cells.toArray] W fun e w'=>e=.returned (.bool E)/\Below W.heap.size W w') (hcl:q.client.size<=4611686018427387904) (hWO:∀ k,k<P.wills.length->(P.wills.getD k wl0).topic.size<=4611686018427387904/\(P.wills.getD k wl0).props.length<=1000000000/\Go.Proofs.YtmpijpjlbhfccaaGreatDoor.Small (P.wills.getD k wl0).props/\(P.wills.getD k wl0).payload.size<=4611686018427387904) (hUO:∀ k,k<P.user.length->(P.user.getD k ⟨#[]⟩).size<=4611686018427387904) (hPOK:∀ k,k<P.pass.length->(P.pass.getD k ⟨#[]⟩).size<=4611686018427387904) (hc0:con0 q.client q.keep P.wills.length P.user.length P.pass.length=true) (hc1:con1 P.wills=true) (hc2:con2 P.user=false) (hk:P.kind=1) :
  Calls Tryz.prog 27 #[q.val] w fun e w'=>e=.returned (.bool (tlB P (conO q.client q.keep P.wills P.user P.pass) E))/\Below w.heap.size w w':=by
 have HEQ:=zh hEQ
 have HMX0:=zh hmx
 have HSM:=zh hsm
 have HRP:=zh hR.props
 have HQN:=zh hR.cnt.ns.1
 have HKP:=zh hR.sc.1
 have hW:=hR.wills
 have hU:=hR.user
 have hPs:=hR.pass
 obtain⟨wo,wc,hwv,⟨hw1,hw2⟩,hWS⟩:=hW
 obtain⟨uo,uc,huv,⟨hu1,hu2⟩,hUS⟩:=hU
 obtain⟨po,pc,hpv,⟨hp1,hp2⟩,hPS⟩:=hPs
 have HWV:=zh hwv
 have HUV:=zh huv
 have HPV:=zh hpv
 have HWS:=zh hWS
 have HUS:=zh hUS
 have HPS:=zh hPS
 have HWO:=zh hWO
 have HUO:=zh hUO
 clear hwv huv hpv hWS hUS hPS hWO hUO
 obtain⟨nw,hnw⟩:∃ n,n=P.wills.length:=⟨_,rfl⟩
 obtain⟨nu,hnu⟩:∃ n,n=P.user.length:=⟨_,rfl⟩
 obtain⟨np,hnp⟩:∃ n,n=P.pass.length:=⟨_,rfl⟩
 rw[<- hnw]at HWV hw1
 rw[<- hnu]at HUV hu1
 rw[<- hnp]at HPV hp1
 have HNW:=zh hnw
 have HNU:=zh hnu
 have HNP:=zh hnp
 clear hnw hnu hnp
 have HPOK:=zh hPOK
 clear hPOK
 have HC0:=zh hc0
 clear hc0
 have HC1:=zh hc1
 have HC2:=zh hc2
 clear hc1 hc2
 have hk2:=hk
 rw[<- hR.sc.1]at hk2
 have HKK:=zh hk2
 have HSC:=zh hR
 clear hEQ hsm hR hk hk2
 have HPN:=zh (pk_new w q)
 have HMN:=zh (ms_new w q)
 have HX:Hid ((w.alloc (.cells q.cells.toArray 31)).heap.size=w.heap.size+1):=by show _=_;simp
 go_enter Tryz.func27,Tryz.ntmps27
 go_upto_region 1 with fail
 change Code.wp _ _ _ _ (w.alloc (.cells q.cells.toArray 31))
 generalize w.alloc (.cells q.cells.toArray 31)=wa at HPN HMN HX |-
 have c0:=(uh HPN).kind
 have c7:=(uh HPN).props
 iterate 13 go_step
 refine Go.Proofs.YtmpijpjlbhfccaaGreatDoor.wpList_value rfl (packet_build2 _ _ _ _ _ _ _ q rfl rfl _) ?_
 simp only[sp]
 refine Go.Proofs.YtmpijpjlbhfccaaGreatDoor.wpList_value rfl (mpacket_alloc _ _ _ _ _ _) ?_
 simp only[sp]
 refine Go.Proofs.YtmpijpjlbhfccaaGreatDoor.wpList_skip rfl (mpacket_store _ _ _ _ _ _ _ (xk q) wa rfl rfl) ?_
 simp only[Act.put]
 have HM:Hid (MS w (wa.alloc (.cells (xk q).cells.toArray 31)) w.heap.size wa.heap.size q (xk q)):=by rw[uh HX];exact uh HMN
 generalize wa.alloc (.cells (xk q).cells.toArray 31)=w1 at HM |-
 generalize wa.heap.size=X at HM |-
 generalize hBB:w.heap.size=B at HM |-
 have HBB:=zh hBB
 clear c0 c7 HPN HMN HX hBB
 have c0:=(uh HM).pb.kind
 rw[uh HKK]at c0
 go_wp2_with fail
 have HMd0:Hid (MS w w1.drew B X q (xk q)):=(uh HM).below (below_drewN (Below.refl _ _) 1)
 clear HM c0
 refine wp_region_noPanic ?_
 refine wp_region_held_drew (S:=(fun w'=>w'.cell? ⟨B,8,none⟩=some (.string q.client)/\w'.cell? ⟨B,9,none⟩=some (.bool q.clean)/\w'.cell? ⟨B,10,none⟩=some (.int .i64 q.keep)/\w'.cell? ⟨B,11,none⟩=some (q.wills.val)/\w'.cell? ⟨B,12,none⟩=some (q.user.val)/\w'.cell? ⟨B,13,none⟩=some (q.pass.val))) (by kernel_rfl) ⟨(uh HMd0).pb.client,(uh HMd0).pb.clean,(uh HMd0).pb.keep,(uh HMd0).pb.wills,(uh HMd0).pb.user,(uh HMd0).pb.pass⟩ (fun hHeld=>?_)
 generalize w1.drew=wd0 at HMd0 hHeld |-
 refine rtk 0 (h:=?_)
 refine rtk 1 (h:=?_)
 refine rtk 2 (h:=?_)
 refine rtk 3 (h:=?_)
 refine rtk 4 (h:=?_)
 refine rtk 5 (h:=?_)
 refine rtk 6 (h:=?_)
 refine rtk 7 (h:=?_)
 refine rtk 8 (h:=?_)
 refine rtk 9 (h:=?_)
 refine rtk 10 (h:=?_)
 refine rtk 11 (h:=?_)
 refine rtk 12 (h:=?_)
 have x8:=(uh HMd0).px.client
 have y8:=(uh HMd0).px.client_f
 have HMd1:=zh ((uh HMd0).wi_client q.client)
 refine rcl 13 (h:=fun K hK=>?_)
 go_simp
 refine hK.out _ _ ⟨(uh HMd1).pb.client,(uh HMd1).pb.clean,(uh HMd1).pb.keep,(uh HMd1).pb.wills,(uh HMd1).pb.user,(uh HMd1).pb.pass⟩ (fun hHeld=>?_)
 clear hK K x8 y8 HMd0
 generalize World.setCell _ ⟨X,8,none⟩ (.string q.client)=wd1 at HMd1 hHeld |-
 refine rtk 14 (h:=?_)
 have x9:=(uh HMd1).px.clean
 have y9:=(uh HMd1).px.clean_f
 have HMd2:=zh ((uh HMd1).wi_clean q.clean)
 refine rcl 15 (h:=fun K hK=>?_)
 go_simp
 refine hK.out _ _ ⟨(uh HMd2).pb.client,(uh HMd2).pb.clean,(uh HMd2).pb.keep,(uh HMd2).pb.wills,(uh HMd2).pb.user,(uh HMd2).pb.pass⟩ (fun hHeld=>?_)
 clear hK K x9 y9 HMd1
 generalize World.setCell _ ⟨X,9,none⟩ (.bool q.clean)=wd2 at HMd2 hHeld |-
 refine rtk 16 (h:=?_)
 have x10:=(uh HMd2).px.keep
 have y10:=(uh HMd2).px.keep_f
 have HMd3:=zh ((uh HMd2).wi_keep q.keep)
 refine rcl 17 (h:=fun K hK=>?_)
 go_simp
 refine hK.out _ _ ⟨(uh HMd3).pb.client,(uh HMd3).pb.clean,(uh HMd3).pb.keep,(uh HMd3).pb.wills,(uh HMd3).pb.user,(uh HMd3).pb.pass⟩ (fun hHeld=>?_)
 clear hK K x10 y10 HMd2
 generalize World.setCell _ ⟨X,10,none⟩ (.int .i64 q.keep)=wd3 at HMd3 hHeld |-
 refine rtk 18 (h:=?_)
 have x11:=(uh HMd3).px.wills
 have y11:=(uh HMd3).px.wills_f
 have HMd4:=zh ((uh HMd3).wi_wills q.wills)
 refine rcl 19 (h:=fun K hK=>?_)
 go_simp
 refine hK.out _ _ ⟨(uh HMd4).pb.client,(uh HMd4).pb.clean,(uh HMd4).pb.keep,(uh HMd4).pb.wills,(uh HMd4).pb.user,(uh HMd4).pb.pass⟩ (fun hHeld=>?_)
 clear hK K x11 y11 HMd3
 generalize World.setCell _ ⟨X,11,none⟩ (q.wills.val)=wd4 at HMd4 hHeld |-
 refine rtk 20 (h:=?_)
 have x12:=(uh HMd4).px.user
 have y12:=(uh HMd4).px.user_f
 have HMd5:=zh ((uh HMd4).wi_user q.user)
 refine rcl 21 (h:=fun K hK=>?_)
 go_simp
 refine hK.out _ _ ⟨(uh HMd5).pb.client,(uh HMd5).pb.clean,(uh HMd5).pb.keep,(uh HMd5).pb.wills,(uh HMd5).pb.user,(uh HMd5).pb.pass⟩ (fun hHeld=>?_)
 clear hK K x12 y12 HMd4
 generalize World.setCell _ ⟨X,12,none⟩ (q.user.val)=wd5 at HMd5 hHeld |-
 refine rtk 22 (h:=?_)
 have x13:=(uh HMd5).px.pass
 have y13:=(uh HMd5).px.pass_f
 have HMd6:=zh ((uh HMd5).wi_pass q.pass)
 refine rcl 23 (h:=fun K hK=>?_)
 go_simp
 refine hK.out _ _ ⟨(uh HMd6).pb.client,(uh HMd6).pb.clean,(uh HMd6).pb.keep,(uh HMd6).pb.wills,(uh HMd6).pb.user,(uh HMd6).pb.pass⟩ (fun hHeld=>?_)
 clear hK K x13 y13 HMd5
 generalize World.setCell _ ⟨X,13,none⟩ (q.pass.val)=wd6 at HMd6 hHeld |-
 refine wpAnyH_done (by kernel_rfl) ?_ _
 refine NoPanic.normal ?_
 have HM:=HMd6
 clear HMd6 hHeld
 have b8:=(uh HM).pb.client
 have b10:=(uh HM).pb.keep
 have b11:=(uh HM).pb.wills
 have b12:=(uh HM).pb.user
 have b13:=(uh HM).pb.pass
 rw[uh HWV]at b11
 rw[uh HUV]at b12
 rw[uh HPV]at b13
 obtain⟨HT,h1,h2,h3,h4,h5⟩:Hid (okT q.client=true)/\0<=q.keep/\q.keep<=65535/\nw<=1/\nu<=1/\np<=1:=by
  have k:=uh HC0
  rw[<- uh HNW,<- uh HNU,<- uh HNP]at k
  unfold con0 at k
  simp only[Bool.and_eq_true,decide_eq_true_iff]at k
  exact k
 go_wp2_with fail
 refine (gtext_any q.client true (uh HT) _ hcl).mono ?_
 rintro e w3 ⟨rfl,hb3⟩
 have HM3:=zh ((uh HM).below hb3)
 clear hb3 HM b8 b10 b11 b12 b13
 have HM:=HM3
 clear HM3
 have b8:=(uh HM).pb.client
 have b10:=(uh HM).pb.keep
 have b11:=(uh HM).pb.wills
 have b12:=(uh HM).pb.user
 have b13:=(uh HM).pb.pass
 rw[uh HWV]at b11
 rw[uh HUV]at b12
 rw[uh HPV]at b13
 obtain⟨kp,hkp⟩:∃ z,z=q.keep:=⟨_,rfl⟩
 rw[<- hkp]at b10 h1 h2
 clear hkp
 go_upto_if 72 with fail
 go_cut [4] from 8 (fun s4 wx=>s4=.bool true/\Hid (MS w wx B X q (((((((xk q).wi_client q.client).wi_clean q.clean).wi_keep q.keep).wi_wills q.wills).wi_user q.user).wi_pass q.pass)))
 case first =>
  by_cases hl:nw=1
  ·subst hl
   have h0l:0<P.wills.length:=by rw[<- uh HNW];omega
   obtain⟨b,off,rfl,hat⟩:∃ b off,wo=some ⟨b,off,none⟩/\WlAt w b off P.wills:=by
    rcases uh HWS with e|k
    ·rw[e]at h0l;simp at h0l
    ·exact k
   have hat:=hat 0 h0l
   have hB:=(uh HM).bel
   obtain⟨ao,n,cap,⟨d0,d1,d2,d3,d4⟩,hpr,-⟩:=hat
   rw[Nat.zero_mul,Nat.add_zero]at d0 d1 d2 d3 d4
   have hbl:b<w.heap.size:=cell_lt d0
   have e0:=(hB.cell hbl).trans d0
   have e1:=(hB.cell hbl).trans d1
   have e2:=(hB.cell hbl).trans d2
   have e3:=(hB.cell hbl).trans d3
   have e4:=(hB.cell hbl).trans d4
   obtain⟨z1,z2,z3,z4⟩:=(uh HWO) 0 h0l
   have HZ3:=zh z3
   have HPR:=zh hpr
   have HCN:Hid (mwB (P.wills.getD 0 wl0)=con1 P.wills):=by show _=_;unfold con1;rw[if_pos (uh HNW).symm]
   generalize P.wills.getD 0 wl0=u at e0 e1 e2 e3 e4 z1 z2 z4 HZ3 HPR HCN
   clear d0 d1 d2 d3 d4 hpr z3 hB
   rw[uh HC1]at HCN
   obtain⟨hmw⟩:Nonempty (mwB u=true):=⟨uh HCN⟩
   have HMW:=zh hmw
   clear hmw
   go_wp2_with fail
   refine (mayWill_any u ao n cap _ ((uh HPR).below (uh HM).bel) z1 z2 (uh HZ3) z4).mono ?_
   rintro e w5 ⟨rfl,hb5⟩
   rw[uh HMW]
   have HM5:=zh ((uh HM).below hb5)
   clear hb5 HM
   have HM:=HM5
   clear HM5
   go_wp2
   go_meet
   case rel=>exact⟨rfl,HM⟩
  ·have hlb_nw:((nw:Int)==1)=false:=beq_false_of_ne (by omega)
   clear hl
   go_wp2
   go_meet
   case rel=>exact⟨rfl,HM⟩
 case rest =>
  obtain⟨rfl,HMc⟩:=hcut
  clear HM b11 b12 b13
  have HM:=HMc
  clear HMc
  have b11:=(uh HM).pb.wills
  have b12:=(uh HM).pb.user
  have b13:=(uh HM).pb.pass
  rw[uh HWV]at b11
  rw[uh HUV]at b12
  rw[uh HPV]at b13
  have hl:nu=1:=by
   rw[uh HNU]
   exact Classical.byContradiction fun k=>by have:=uh HC2;unfold con2 at this;rw[if_neg k]at this;cases this
  subst hl
  have h0l:0<P.user.length:=by rw[<- uh HNU];omega
  obtain⟨b,off,rfl,hat⟩:∃ b off,uo=some ⟨b,off,none⟩/\∀ j,j<P.user.length->w.cell? ⟨b,off+j,none⟩=some (.string (P.user.getD j ⟨#[]⟩)):=by
   rcases uh HUS with e|k
   ·rw[e]at h0l;simp at h0l
   ·exact k
  have hat:=hat 0 h0l
  have hB:=(uh HM).bel
  have e0:=(hB.cell (cell_lt hat)).trans hat
  rw[Nat.add_zero]at e0
  have z1:=(uh HUO) 0 h0l
  have HCN:Hid (okT (P.user.getD 0 ⟨#[]⟩)=con2 P.user):=by show _=_;unfold con2;rw[if_pos (uh HNU).symm]
  generalize P.user.getD 0 ⟨#[]⟩=sv at e0 z1 HCN hat
  clear hat hB
  rw[uh HC2]at HCN
  have HMU:=HCN
  go_wp2_with fail
  refine (gtext_any sv false (uh HMU) _ z1).mono ?_
  rintro e w6 ⟨rfl,hb6⟩
  have HM6:=zh ((uh HM).below hb6)
  clear hb6 HM
  have HM:=HM6
  clear HM6
  have HR:Hid (tlB P (conO q.client q.keep P.wills P.user P.pass) E=false):=by show _=_;rw[show conO q.client q.keep P.wills P.user P.pass=false from by unfold conO;rw[uh HC2];simp];rfl
  go_wp2
  go_ret
  exact⟨by rw[uh HR];rfl,(uh HM).bel⟩
theorem may_connD1 (q:Pkv) (P:Pa) (w:World) (hR:RPk w q P) (hmx:P.props.length<=1000000000) (hsm:Go.Proofs.YtmpijpjlbhfccaaGreatDoor.Small P.props) (E:Bool) (hEQ:∀ W,Below w.heap.size w W->Calls Tryz.prog 12 #[.agg (((((((xk q).wi_client q.client).wi_clean q.clean).wi_keep q.keep).wi_wills q.wills).wi_user q.user).wi_pass q.pass).cells.toArray,.agg q.cells.toArray] W fun e w'=>e=.returned (.bool E)/\Below W.heap.size W w') (hcl:q.client.size<=4611686018427387904) (hWO:∀ k,k<P.wills.length->(P.wills.getD k wl0).topic.size<=4611686018427387904/\(P.wills.getD k wl0).props.length<=1000000000/\Go.Proofs.YtmpijpjlbhfccaaGreatDoor.Small (P.wills.getD k wl0).props/\(P.wills.getD k wl0).payload.size<=4611686018427387904) (hUO:∀ k,k<P.user.length->(P.user.getD k ⟨#[]⟩).size<=4611686018427387904) (hPOK:∀ k,k<P.pass.length->(P.pass.getD k ⟨#[]⟩).size<=4611686018427387904) (hc0:con0 q.client q.keep P.wills.length P.user.length P.pass.length=true) (hc1:con1 P.wills=true) (hc2:con2 P.user=true) (hu:P.user.length=1) (hl:P.pass.length=1) (hk:P.kind=1) :
  Calls Tryz.prog 27 #[q.val] w fun e w'=>e=.returned (.bool (tlB P (conO q.client q.keep P.wills P.user P.pass) E))/\Below w.heap.size w w':=by
 have HEQ:=zh hEQ
 have HMX0:=zh hmx
 have HSM:=zh hsm
 have HRP:=zh hR.props
 have HQN:=zh hR.cnt.ns.1
 have HKP:=zh hR.sc.1
 have hW:=hR.wills
 have hU:=hR.user
 have hPs:=hR.pass
 obtain⟨wo,wc,hwv,⟨hw1,hw2⟩,hWS⟩:=hW
 obtain⟨uo,uc,huv,⟨hu1,hu2⟩,hUS⟩:=hU
 obtain⟨po,pc,hpv,⟨hp1,hp2⟩,hPS⟩:=hPs
 have HWV:=zh hwv
 have HUV:=zh huv
 have HPV:=zh hpv
 have HWS:=zh hWS
 have HUS:=zh hUS
 have HPS:=zh hPS
 have HWO:=zh hWO
 have HUO:=zh hUO
 clear hwv huv hpv hWS hUS hPS hWO hUO
 obtain⟨nw,hnw⟩:∃ n,n=P.wills.length:=⟨_,rfl⟩
 obtain⟨nu,hnu⟩:∃ n,n=P.user.length:=⟨_,rfl⟩
 obtain⟨np,hnp⟩:∃ n,n=P.pass.length:=⟨_,rfl⟩
 rw[<- hnw]at HWV hw1
 rw[<- hnu]at HUV hu1
 rw[<- hnp]at HPV hp1
 have HNW:=zh hnw
 have HNU:=zh hnu
 have HNP:=zh hnp
 clear hnw hnu hnp
 have HPOK:=zh hPOK
 clear hPOK
 have HC0:=zh hc0
 clear hc0
 have HC1:=zh hc1
 have HC2:=zh hc2
 have HHL:=zh hl
 have HHU:=zh hu
 clear hc1 hc2 hl hu
 have hk2:=hk
 rw[<- hR.sc.1]at hk2
 have HKK:=zh hk2
 have HSC:=zh hR
 clear hEQ hsm hR hk hk2
 have HPN:=zh (pk_new w q)
 have HMN:=zh (ms_new w q)
 have HX:Hid ((w.alloc (.cells q.cells.toArray 31)).heap.size=w.heap.size+1):=by show _=_;simp
 go_enter Tryz.func27,Tryz.ntmps27
 go_upto_region 1 with fail
 change Code.wp _ _ _ _ (w.alloc (.cells q.cells.toArray 31))
 generalize w.alloc (.cells q.cells.toArray 31)=wa at HPN HMN HX |-
 have c0:=(uh HPN).kind
 have c7:=(uh HPN).props
 iterate 13 go_step
 refine Go.Proofs.YtmpijpjlbhfccaaGreatDoor.wpList_value rfl (packet_build2 _ _ _ _ _ _ _ q rfl rfl _) ?_
 simp only[sp]
 refine Go.Proofs.YtmpijpjlbhfccaaGreatDoor.wpList_value rfl (mpacket_alloc _ _ _ _ _ _) ?_
 simp only[sp]
 refine Go.Proofs.YtmpijpjlbhfccaaGreatDoor.wpList_skip rfl (mpacket_store _ _ _ _ _ _ _ (xk q) wa rfl rfl) ?_
 simp only[Act.put]
 have HM:Hid (MS w (wa.alloc (.cells (xk q).cells.toArray 31)) w.heap.size wa.heap.size q (xk q)):=by rw[uh HX];exact uh HMN
 generalize wa.alloc (.cells (xk q).cells.toArray 31)=w1 at HM |-
 generalize wa.heap.size=X at HM |-
 generalize hBB:w.heap.size=B at HM |-
 have HBB:=zh hBB
 clear c0 c7 HPN HMN HX hBB
 have c0:=(uh HM).pb.kind
 rw[uh HKK]at c0
 go_wp2_with fail
 have HMd0:Hid (MS w w1.drew B X q (xk q)):=(uh HM).below (below_drewN (Below.refl _ _) 1)
 clear HM c0
 refine wp_region_noPanic ?_
 refine wp_region_held_drew (S:=(fun w'=>w'.cell? ⟨B,8,none⟩=some (.string q.client)/\w'.cell? ⟨B,9,none⟩=some (.bool q.clean)/\w'.cell? ⟨B,10,none⟩=some (.int .i64 q.keep)/\w'.cell? ⟨B,11,none⟩=some (q.wills.val)/\w'.cell? ⟨B,12,none⟩=some (q.user.val)/\w'.cell? ⟨B,13,none⟩=some (q.pass.val))) (by kernel_rfl) ⟨(uh HMd0).pb.client,(uh HMd0).pb.clean,(uh HMd0).pb.keep,(uh HMd0).pb.wills,(uh HMd0).pb.user,(uh HMd0).pb.pass⟩ (fun hHeld=>?_)
 generalize w1.drew=wd0 at HMd0 hHeld |-
 refine rtk 0 (h:=?_)
 refine rtk 1 (h:=?_)
 refine rtk 2 (h:=?_)
 refine rtk 3 (h:=?_)
 refine rtk 4 (h:=?_)
 refine rtk 5 (h:=?_)
 refine rtk 6 (h:=?_)
 refine rtk 7 (h:=?_)
 refine rtk 8 (h:=?_)
 refine rtk 9 (h:=?_)
 refine rtk 10 (h:=?_)
 refine rtk 11 (h:=?_)
 refine rtk 12 (h:=?_)
 have x8:=(uh HMd0).px.client
 have y8:=(uh HMd0).px.client_f
 have HMd1:=zh ((uh HMd0).wi_client q.client)
 refine rcl 13 (h:=fun K hK=>?_)
 go_simp
 refine hK.out _ _ ⟨(uh HMd1).pb.client,(uh HMd1).pb.clean,(uh HMd1).pb.keep,(uh HMd1).pb.wills,(uh HMd1).pb.user,(uh HMd1).pb.pass⟩ (fun hHeld=>?_)
 clear hK K x8 y8 HMd0
 generalize World.setCell _ ⟨X,8,none⟩ (.string q.client)=wd1 at HMd1 hHeld |-
 refine rtk 14 (h:=?_)
 have x9:=(uh HMd1).px.clean
 have y9:=(uh HMd1).px.clean_f
 have HMd2:=zh ((uh HMd1).wi_clean q.clean)
 refine rcl 15 (h:=fun K hK=>?_)
 go_simp
 refine hK.out _ _ ⟨(uh HMd2).pb.client,(uh HMd2).pb.clean,(uh HMd2).pb.keep,(uh HMd2).pb.wills,(uh HMd2).pb.user,(uh HMd2).pb.pass⟩ (fun hHeld=>?_)
 clear hK K x9 y9 HMd1
 generalize World.setCell _ ⟨X,9,none⟩ (.bool q.clean)=wd2 at HMd2 hHeld |-
 refine rtk 16 (h:=?_)
 have x10:=(uh HMd2).px.keep
 have y10:=(uh HMd2).px.keep_f
 have HMd3:=zh ((uh HMd2).wi_keep q.keep)
 refine rcl 17 (h:=fun K hK=>?_)
 go_simp
 refine hK.out _ _ ⟨(uh HMd3).pb.client,(uh HMd3).pb.clean,(uh HMd3).pb.keep,(uh HMd3).pb.wills,(uh HMd3).pb.user,(uh HMd3).pb.pass⟩ (fun hHeld=>?_)
 clear hK K x10 y10 HMd2
 generalize World.setCell _ ⟨X,10,none⟩ (.int .i64 q.keep)=wd3 at HMd3 hHeld |-
 refine rtk 18 (h:=?_)
 have x11:=(uh HMd3).px.wills
 have y11:=(uh HMd3).px.wills_f
 have HMd4:=zh ((uh HMd3).wi_wills q.wills)
 refine rcl 19 (h:=fun K hK=>?_)
 go_simp
 refine hK.out _ _ ⟨(uh HMd4).pb.client,(uh HMd4).pb.clean,(uh HMd4).pb.keep,(uh HMd4).pb.wills,(uh HMd4).pb.user,(uh HMd4).pb.pass⟩ (fun hHeld=>?_)
 clear hK K x11 y11 HMd3
 generalize World.setCell _ ⟨X,11,none⟩ (q.wills.val)=wd4 at HMd4 hHeld |-
 refine rtk 20 (h:=?_)
 have x12:=(uh HMd4).px.user
 have y12:=(uh HMd4).px.user_f
 have HMd5:=zh ((uh HMd4).wi_user q.user)
 refine rcl 21 (h:=fun K hK=>?_)
 go_simp
 refine hK.out _ _ ⟨(uh HMd5).pb.client,(uh HMd5).pb.clean,(uh HMd5).pb.keep,(uh HMd5).pb.wills,(uh HMd5).pb.user,(uh HMd5).pb.pass⟩ (fun hHeld=>?_)
 clear hK K x12 y12 HMd4
 generalize World.setCell _ ⟨X,12,none⟩ (q.user.val)=wd5 at HMd5 hHeld |-
 refine rtk 22 (h:=?_)
 have x13:=(uh HMd5).px.pass
 have y13:=(uh HMd5).px.pass_f
 have HMd6:=zh ((uh HMd5).wi_pass q.pass)
 refine rcl 23 (h:=fun K hK=>?_)
 go_simp
 refine hK.out _ _ ⟨(uh HMd6).pb.client,(uh HMd6).pb.clean,(uh HMd6).pb.keep,(uh HMd6).pb.wills,(uh HMd6).pb.user,(uh HMd6).pb.pass⟩ (fun hHeld=>?_)
 clear hK K x13 y13 HMd5
 generalize World.setCell _ ⟨X,13,none⟩ (q.pass.val)=wd6 at HMd6 hHeld |-
 refine wpAnyH_done (by kernel_rfl) ?_ _
 refine NoPanic.normal ?_
 have HM:=HMd6
 clear HMd6 hHeld
 have b8:=(uh HM).pb.client
 have b10:=(uh HM).pb.keep
 have b11:=(uh HM).pb.wills
 have b12:=(uh HM).pb.user
 have b13:=(uh HM).pb.pass
 rw[uh HWV]at b11
 rw[uh HUV]at b12
 rw[uh HPV]at b13
 obtain⟨HT,h1,h2,h3,h4,h5⟩:Hid (okT q.client=true)/\0<=q.keep/\q.keep<=65535/\nw<=1/\nu<=1/\np<=1:=by
  have k:=uh HC0
  rw[<- uh HNW,<- uh HNU,<- uh HNP]at k
  unfold con0 at k
  simp only[Bool.and_eq_true,decide_eq_true_iff]at k
  exact k
 go_wp2_with fail
 refine (gtext_any q.client true (uh HT) _ hcl).mono ?_
 rintro e w3 ⟨rfl,hb3⟩
 have HM3:=zh ((uh HM).below hb3)
 clear hb3 HM b8 b10 b11 b12 b13
 have HM:=HM3
 clear HM3
 have b8:=(uh HM).pb.client
 have b10:=(uh HM).pb.keep
 have b11:=(uh HM).pb.wills
 have b12:=(uh HM).pb.user
 have b13:=(uh HM).pb.pass
 rw[uh HWV]at b11
 rw[uh HUV]at b12
 rw[uh HPV]at b13
 obtain⟨kp,hkp⟩:∃ z,z=q.keep:=⟨_,rfl⟩
 rw[<- hkp]at b10 h1 h2
 clear hkp
 go_upto_if 72 with fail
 go_cut [4] from 8 (fun s4 wx=>s4=.bool true/\Hid (MS w wx B X q (((((((xk q).wi_client q.client).wi_clean q.clean).wi_keep q.keep).wi_wills q.wills).wi_user q.user).wi_pass q.pass)))
 case first =>
  by_cases hl:nw=1
  ·subst hl
   have h0l:0<P.wills.length:=by rw[<- uh HNW];omega
   obtain⟨b,off,rfl,hat⟩:∃ b off,wo=some ⟨b,off,none⟩/\WlAt w b off P.wills:=by
    rcases uh HWS with e|k
    ·rw[e]at h0l;simp at h0l
    ·exact k
   have hat:=hat 0 h0l
   have hB:=(uh HM).bel
   obtain⟨ao,n,cap,⟨d0,d1,d2,d3,d4⟩,hpr,-⟩:=hat
   rw[Nat.zero_mul,Nat.add_zero]at d0 d1 d2 d3 d4
   have hbl:b<w.heap.size:=cell_lt d0
   have e0:=(hB.cell hbl).trans d0
   have e1:=(hB.cell hbl).trans d1
   have e2:=(hB.cell hbl).trans d2
   have e3:=(hB.cell hbl).trans d3
   have e4:=(hB.cell hbl).trans d4
   obtain⟨z1,z2,z3,z4⟩:=(uh HWO) 0 h0l
   have HZ3:=zh z3
   have HPR:=zh hpr
   have HCN:Hid (mwB (P.wills.getD 0 wl0)=con1 P.wills):=by show _=_;unfold con1;rw[if_pos (uh HNW).symm]
   generalize P.wills.getD 0 wl0=u at e0 e1 e2 e3 e4 z1 z2 z4 HZ3 HPR HCN
   clear d0 d1 d2 d3 d4 hpr z3 hB
   rw[uh HC1]at HCN
   obtain⟨hmw⟩:Nonempty (mwB u=true):=⟨uh HCN⟩
   have HMW:=zh hmw
   clear hmw
   go_wp2_with fail
   refine (mayWill_any u ao n cap _ ((uh HPR).below (uh HM).bel) z1 z2 (uh HZ3) z4).mono ?_
   rintro e w5 ⟨rfl,hb5⟩
   rw[uh HMW]
   have HM5:=zh ((uh HM).below hb5)
   clear hb5 HM
   have HM:=HM5
   clear HM5
   go_wp2
   go_meet
   case rel=>exact⟨rfl,HM⟩
  ·have hlb_nw:((nw:Int)==1)=false:=beq_false_of_ne (by omega)
   clear hl
   go_wp2
   go_meet
   case rel=>exact⟨rfl,HM⟩
 case rest =>
  obtain⟨rfl,HMc⟩:=hcut
  clear HM b11 b12 b13
  have HM:=HMc
  clear HMc
  have b11:=(uh HM).pb.wills
  have b12:=(uh HM).pb.user
  have b13:=(uh HM).pb.pass
  rw[uh HWV]at b11
  rw[uh HUV]at b12
  rw[uh HPV]at b13
  have hlu:nu=1:=by rw[uh HNU];exact uh HHU
  subst hlu
  have h0l:0<P.user.length:=by rw[<- uh HNU];omega
  obtain⟨b,off,rfl,hat⟩:∃ b off,uo=some ⟨b,off,none⟩/\∀ j,j<P.user.length->w.cell? ⟨b,off+j,none⟩=some (.string (P.user.getD j ⟨#[]⟩)):=by
   rcases uh HUS with e|k
   ·rw[e]at h0l;simp at h0l
   ·exact k
  have hat:=hat 0 h0l
  have hB:=(uh HM).bel
  have e0:=(hB.cell (cell_lt hat)).trans hat
  rw[Nat.add_zero]at e0
  have z1:=(uh HUO) 0 h0l
  have HCN:Hid (okT (P.user.getD 0 ⟨#[]⟩)=con2 P.user):=by show _=_;unfold con2;rw[if_pos (uh HNU).symm]
  generalize P.user.getD 0 ⟨#[]⟩=sv at e0 z1 HCN hat
  clear hat hB
  rw[uh HC2]at HCN
  have HMU:=HCN
  go_wp2_with fail
  refine (gtext_any sv true (uh HMU) _ z1).mono ?_
  rintro e w6 ⟨rfl,hb6⟩
  have HM6:=zh ((uh HM).below hb6)
  clear hb6 HM
  have HM:=HM6
  clear HM6
  have b11:=(uh HM).pb.wills
  have b12:=(uh HM).pb.user
  have b13:=(uh HM).pb.pass
  rw[uh HWV]at b11
  rw[uh HUV]at b12
  rw[uh HPV]at b13
  have hl:np=1:=by rw[uh HNP];exact uh HHL
  subst hl
  have h0l:0<P.pass.length:=by rw[<- uh HNP];omega
  obtain⟨b,off,rfl,hat⟩:∃ b off,po=some ⟨b,off,none⟩/\∀ j,j<P.pass.length->w.cell? ⟨b,off+j,none⟩=some (.string (P.pass.getD j ⟨#[]⟩)):=by
   rcases uh HPS with e|k
   ·rw[e]at h0l;simp at h0l
   ·exact k
  have hat:=hat 0 h0l
  have hB:=(uh HM).bel
  have e0:=(hB.cell (cell_lt hat)).trans hat
  rw[Nat.add_zero]at e0
  have HCN:Hid (con3 P.pass=okB (P.pass.getD 0 ⟨#[]⟩)):=by show _=_;unfold con3;rw[if_pos (uh HNP).symm]
  have HPO:=zh ((uh HPOK) 0 h0l)
  generalize P.pass.getD 0 ⟨#[]⟩=sv at e0 HCN hat HPO
  have hpo:=uh HPO
  clear hat hB
  by_cases hs:sv.size<=65535
  ·have HC3:Hid (con3 P.pass=true):=by show _=_;rw[uh HCN];exact decide_eq_true hs
   have hd:decide ((sv.size:Int)<=65535)=true:=decide_eq_true (by omega)
   go_upto_region 55 with fail
   iterate 7 go_step
   refine mpList_wanted (by rfl) fun K hK=>wp_load_mid 31 _ rfl X 0 rfl (((((((xk q).wi_client q.client).wi_clean q.clean).wi_keep q.keep).wi_wills q.wills).wi_user q.user).wi_pass q.pass).cells _ (uh HM).px.range Tryz.underlying31 rfl packet_size (hK _ _ ?_)
   clear hK K
   simp only[sp]
   refine mpList_wanted (by rfl) fun K hK=>wp_load_mid 31 _ rfl B 0 rfl q.cells _ (uh HM).pb.range Tryz.underlying31 rfl packet_size (hK _ _ ?_)
   clear hK K
   simp only[sp]
   go_wp2_with fail
   refine ((uh HEQ) _ (uh HM).bel).mono ?_
   rintro e wz ⟨rfl,hbz⟩
   have HZ:=zh ((uh HM).below hbz)
   clear hbz HM
   have z0:=(uh HZ).pb.kind
   have z7:=(uh HZ).pb.props
   rw[show q.props.val=.slice q.props.ao q.props.n q.props.cap from rfl,uh HQN]at z7
   cases E
   ·have HR:Hid (tlB P (conO q.client q.keep P.wills P.user P.pass) false=false):=by show _=_;rw[show conO q.client q.keep P.wills P.user P.pass=true from by unfold conO;rw[uh HC0,uh HC1,uh HC2,uh HC3];rfl];rfl
    go_wp2
    go_ret
    exact⟨by rw[uh HR];rfl,(uh HZ).bel⟩
   ·by_cases hp0:P.props.length=0
    ·have HR:Hid (tlB P (conO q.client q.keep P.wills P.user P.pass) true=true):=by show _=_;rw[show conO q.client q.keep P.wills P.user P.pass=true from by unfold conO;rw[uh HC0,uh HC1,uh HC2,uh HC3];rfl];unfold tlB;rw[decide_eq_true hp0];rfl
     rw[hp0]at z7
     clear hp0
     go_wp2
     go_ret
     exact⟨by rw[uh HR];rfl,(uh HZ).bel⟩
    ·have HR:Hid (tlB P (conO q.client q.keep P.wills P.user P.pass) true=okP P.kind P.props):=by show _=_;rw[show conO q.client q.keep P.wills P.user P.pass=true from by unfold conO;rw[uh HC0,uh HC1,uh HC2,uh HC3];rfl];unfold tlB;rw[decide_eq_false hp0];rfl
     have hp1:((P.props.length:Int)==0)=false:=beq_false_of_ne (by omega)
     clear hp0
     rw[uh HKP]at z0
     go_wp2_with fail
     refine (gprops_any _ P.props P.kind _ (by rw[<- uh HQN];exact (uh HRP).below (uh HZ).bel) hmx (uh HSM)).mono ?_
     rintro e wy ⟨rfl,hby⟩
     have HY:=zh ((uh HZ).below hby)
     clear hby HZ
     go_wp2
     go_ret
     exact⟨by rw[uh HR];rfl,(uh HY).bel⟩
  ·have HC3:Hid (con3 P.pass=false):=by show _=_;rw[uh HCN];exact decide_eq_false hs
   have hs2:65535<sv.size:=by omega
   have hd:decide ((sv.size:Int)<=65535)=false:=decide_eq_false (by omega)
   clear hs
   have HR:Hid (tlB P (conO q.client q.keep P.wills P.user P.pass) E=false):=by show _=_;rw[show conO q.client q.keep P.wills P.user P.pass=false from by unfold conO;rw[uh HC3];simp];rfl
   go_wp2
   go_ret
   exact⟨by rw[uh HR];rfl,(uh HM).bel⟩
end Go.Proofs.YtmpijpjlbhfccaaGreatDoor.K
