/- Proved here: helpers, one text behind the other. -/
import Derived.Test.YtdkmmmjjdlnnoaaGreatDoorZC21
import Derived.Test.YtdkmmmjjdlnnoaaGreatDoorZC34
import Derived.Test.YtdkmmmjjdlnnoaaGreatDoorZC35
import Derived.Test.YtdkmmmjjdlnnoaaGreatDoorZC36
import Derived.Test.YtdkmmmjjdlnnoaaGreatDoorZC37
import Derived.Test.YtdkmmmjjdlnnoaaGreatDoorZC29
import Derived.Test.YtdkmmmjjdlnnoaaGreatDoorZC6
import Derived.Test.YtdkmmmjjdlnnoaaGreatDoorZC33
import Derived.Deep.Cut
import Derived.Test.YtdkmmmjjdlnnoaaGreatDoorZC27
import Derived.Test.YtdkmmmjjdlnnoaaGreatDoorZC25
import Derived.Test.YtdkmmmjjdlnnoaaGreatDoorZC11
import Derived.Laws.AppendOwn
import Derived.Test.YtdkmmmjjdlnnoaaGreatDoorZC14
set_option maxHeartbeats 20000000
namespace Go.Proofs.YtdkmmmjjdlnnoaaGreatDoor.K
open Go.RowKit
set_option maxRecDepth 100000
theorem eqpk_any (p q:Pkv) (P Q:Pa) (w:World) (hp:RPk w p P) (hq:RPk w q Q) (hs:Small P) :
  Calls Tryz.prog 24 #[p.val,q.val] w fun e w'=>(∃ b,e=.returned (.bool b)/\(b=true ↔ P=Q))/\Below w.heap.size w w':=by
 obtain⟨x0,x1,x2,x3,x4,x5,x6,x7,x8,x9,x10,x11⟩:=hp.sc
 obtain⟨y0,y1,y2,y3,y4,y5,y6,y7,y8,y9,y10,y11⟩:=hq.sc
 rcases Classical.em (P.kind≠Q.kind)with e0 | e0
 ·exact (eqpk_no0 _ _ _ _ _ _ _ _ _ _ _ _ _ _ _ _ _ _ _ _ _ _ _ _ _ _ _ _ _ _ _ _ _ _ _ _ _ _ w (by rw[x0,y0];exact beq_false_of_ne e0)).mono fun e w' ⟨he,hb⟩=>⟨⟨false,he,⟨fun k=>(by cases k),fun k=>absurd (by rw[k]) e0⟩⟩,hb⟩
 have e0:=Classical.not_not.1 e0
 rcases Classical.em (P.dup≠Q.dup)with e1 | e1
 ·exact (eqpk_no1 _ _ _ _ _ _ _ _ _ _ _ _ _ _ _ _ _ _ _ _ _ _ _ _ _ _ _ _ _ _ _ _ _ _ _ _ _ _ w (by rw[x0,y0,e0];simp) (by rw[x1,y1];exact beq_false_of_ne e1)).mono fun e w' ⟨he,hb⟩=>⟨⟨false,he,⟨fun k=>(by cases k),fun k=>absurd (by rw[k]) e1⟩⟩,hb⟩
 have e1:=Classical.not_not.1 e1
 rcases Classical.em (P.qos≠Q.qos)with e2 | e2
 ·exact (eqpk_no2 _ _ _ _ _ _ _ _ _ _ _ _ _ _ _ _ _ _ _ _ _ _ _ _ _ _ _ _ _ _ _ _ _ _ _ _ _ _ w (by rw[x0,y0,e0];simp) (by rw[x1,y1,e1];simp) (by rw[x2,y2];exact beq_false_of_ne e2)).mono fun e w' ⟨he,hb⟩=>⟨⟨false,he,⟨fun k=>(by cases k),fun k=>absurd (by rw[k]) e2⟩⟩,hb⟩
 have e2:=Classical.not_not.1 e2
 rcases Classical.em (P.retain≠Q.retain)with e3 | e3
 ·exact (eqpk_no3 _ _ _ _ _ _ _ _ _ _ _ _ _ _ _ _ _ _ _ _ _ _ _ _ _ _ _ _ _ _ _ _ _ _ _ _ _ _ w (by rw[x0,y0,e0];simp) (by rw[x1,y1,e1];simp) (by rw[x2,y2,e2];simp) (by rw[x3,y3];exact beq_false_of_ne e3)).mono fun e w' ⟨he,hb⟩=>⟨⟨false,he,⟨fun k=>(by cases k),fun k=>absurd (by rw[k]) e3⟩⟩,hb⟩
 have e3:=Classical.not_not.1 e3
 rcases Classical.em (P.topic≠Q.topic)with e4 | e4
 ·exact (eqpk_no4 _ _ _ _ _ _ _ _ _ _ _ _ _ _ _ _ _ _ _ _ _ _ _ _ _ _ _ _ _ _ _ _ _ _ _ _ _ _ w (by rw[x0,y0,e0];simp) (by rw[x1,y1,e1];simp) (by rw[x2,y2,e2];simp) (by rw[x3,y3,e3];simp) (by rw[x4,y4];exact beq_false_of_ne (fun k=>e4 (text_ext k)))).mono fun e w' ⟨he,hb⟩=>⟨⟨false,he,⟨fun k=>(by cases k),fun k=>absurd (by rw[k]) e4⟩⟩,hb⟩
 have e4:=Classical.not_not.1 e4
 rcases Classical.em (P.id≠Q.id)with e5 | e5
 ·exact (eqpk_no5 _ _ _ _ _ _ _ _ _ _ _ _ _ _ _ _ _ _ _ _ _ _ _ _ _ _ _ _ _ _ _ _ _ _ _ _ _ _ w (by rw[x0,y0,e0];simp) (by rw[x1,y1,e1];simp) (by rw[x2,y2,e2];simp) (by rw[x3,y3,e3];simp) (by rw[x4,y4,e4];simp) (by rw[x5,y5];exact beq_false_of_ne e5)).mono fun e w' ⟨he,hb⟩=>⟨⟨false,he,⟨fun k=>(by cases k),fun k=>absurd (by rw[k]) e5⟩⟩,hb⟩
 have e5:=Classical.not_not.1 e5
 rcases Classical.em (P.payload≠Q.payload)with e6 | e6
 ·exact (eqpk_no6 _ _ _ _ _ _ _ _ _ _ _ _ _ _ _ _ _ _ _ _ _ _ _ _ _ _ _ _ _ _ _ _ _ _ _ _ _ _ w (by rw[x0,y0,e0];simp) (by rw[x1,y1,e1];simp) (by rw[x2,y2,e2];simp) (by rw[x3,y3,e3];simp) (by rw[x4,y4,e4];simp) (by rw[x5,y5,e5];simp) (by rw[x6,y6];exact beq_false_of_ne (fun k=>e6 (text_ext k)))).mono fun e w' ⟨he,hb⟩=>⟨⟨false,he,⟨fun k=>(by cases k),fun k=>absurd (by rw[k]) e6⟩⟩,hb⟩
 have e6:=Classical.not_not.1 e6
 rcases Classical.em (P.props≠Q.props)with e7 | e7
 ·exact (eqpk_no7 _ _ _ _ _ _ _ _ _ _ _ _ _ _ _ _ _ _ _ _ _ _ _ _ _ _ _ _ _ _ _ _ _ _ _ _ _ _ w (by rw[x0,y0,e0];simp) (by rw[x1,y1,e1];simp) (by rw[x2,y2,e2];simp) (by rw[x3,y3,e3];simp) (by rw[x4,y4,e4];simp) (by rw[x5,y5,e5];simp) (by rw[x6,y6,e6];simp) (tells_props hp.props hq.props hs.props false ⟨fun k=>(by cases k),fun k=>absurd k e7⟩)).mono fun e w' ⟨he,hb⟩=>⟨⟨false,he,⟨fun k=>(by cases k),fun k=>absurd (by rw[k]) e7⟩⟩,hb⟩
 have e7:=Classical.not_not.1 e7
 rcases Classical.em (P.client≠Q.client)with e8 | e8
 ·exact (eqpk_no8 _ _ _ _ _ _ _ _ _ _ _ _ _ _ _ _ _ _ _ _ _ _ _ _ _ _ _ _ _ _ _ _ _ _ _ _ _ _ w (by rw[x0,y0,e0];simp) (by rw[x1,y1,e1];simp) (by rw[x2,y2,e2];simp) (by rw[x3,y3,e3];simp) (by rw[x4,y4,e4];simp) (by rw[x5,y5,e5];simp) (by rw[x6,y6,e6];simp) (tells_props hp.props hq.props hs.props true ⟨fun _=>e7,fun _=>rfl⟩) (by rw[x7,y7];exact beq_false_of_ne (fun k=>e8 (text_ext k)))).mono fun e w' ⟨he,hb⟩=>⟨⟨false,he,⟨fun k=>(by cases k),fun k=>absurd (by rw[k]) e8⟩⟩,hb⟩
 have e8:=Classical.not_not.1 e8
 rcases Classical.em (P.clean≠Q.clean)with e9 | e9
 ·exact (eqpk_no9 _ _ _ _ _ _ _ _ _ _ _ _ _ _ _ _ _ _ _ _ _ _ _ _ _ _ _ _ _ _ _ _ _ _ _ _ _ _ w (by rw[x0,y0,e0];simp) (by rw[x1,y1,e1];simp) (by rw[x2,y2,e2];simp) (by rw[x3,y3,e3];simp) (by rw[x4,y4,e4];simp) (by rw[x5,y5,e5];simp) (by rw[x6,y6,e6];simp) (tells_props hp.props hq.props hs.props true ⟨fun _=>e7,fun _=>rfl⟩) (by rw[x7,y7,e8];simp) (by rw[x8,y8];exact beq_false_of_ne e9)).mono fun e w' ⟨he,hb⟩=>⟨⟨false,he,⟨fun k=>(by cases k),fun k=>absurd (by rw[k]) e9⟩⟩,hb⟩
 have e9:=Classical.not_not.1 e9
 rcases Classical.em (P.keep≠Q.keep)with e10 | e10
 ·exact (eqpk_no10 _ _ _ _ _ _ _ _ _ _ _ _ _ _ _ _ _ _ _ _ _ _ _ _ _ _ _ _ _ _ _ _ _ _ _ _ _ _ w (by rw[x0,y0,e0];simp) (by rw[x1,y1,e1];simp) (by rw[x2,y2,e2];simp) (by rw[x3,y3,e3];simp) (by rw[x4,y4,e4];simp) (by rw[x5,y5,e5];simp) (by rw[x6,y6,e6];simp) (tells_props hp.props hq.props hs.props true ⟨fun _=>e7,fun _=>rfl⟩) (by rw[x7,y7,e8];simp) (by rw[x8,y8,e9];simp) (by rw[x9,y9];exact beq_false_of_ne e10)).mono fun e w' ⟨he,hb⟩=>⟨⟨false,he,⟨fun k=>(by cases k),fun k=>absurd (by rw[k]) e10⟩⟩,hb⟩
 have e10:=Classical.not_not.1 e10
 rcases Classical.em (P.wills≠Q.wills)with e11 | e11
 ·exact (eqpk_no11 _ _ _ _ _ _ _ _ _ _ _ _ _ _ _ _ _ _ _ _ _ _ _ _ _ _ _ _ _ _ _ _ _ _ _ _ _ _ w (by rw[x0,y0,e0];simp) (by rw[x1,y1,e1];simp) (by rw[x2,y2,e2];simp) (by rw[x3,y3,e3];simp) (by rw[x4,y4,e4];simp) (by rw[x5,y5,e5];simp) (by rw[x6,y6,e6];simp) (tells_props hp.props hq.props hs.props true ⟨fun _=>e7,fun _=>rfl⟩) (by rw[x7,y7,e8];simp) (by rw[x8,y8,e9];simp) (by rw[x9,y9,e10];simp) (tells_wills hp.wills hq.wills hs.wills false ⟨fun k=>(by cases k),fun k=>absurd k e11⟩)).mono fun e w' ⟨he,hb⟩=>⟨⟨false,he,⟨fun k=>(by cases k),fun k=>absurd (by rw[k]) e11⟩⟩,hb⟩
 have e11:=Classical.not_not.1 e11
 rcases Classical.em (P.user≠Q.user)with e12 | e12
 ·exact (eqpk_no12 _ _ _ _ _ _ _ _ _ _ _ _ _ _ _ _ _ _ _ _ _ _ _ _ _ _ _ _ _ _ _ _ _ _ _ _ _ _ w (by rw[x0,y0,e0];simp) (by rw[x1,y1,e1];simp) (by rw[x2,y2,e2];simp) (by rw[x3,y3,e3];simp) (by rw[x4,y4,e4];simp) (by rw[x5,y5,e5];simp) (by rw[x6,y6,e6];simp) (tells_props hp.props hq.props hs.props true ⟨fun _=>e7,fun _=>rfl⟩) (by rw[x7,y7,e8];simp) (by rw[x8,y8,e9];simp) (by rw[x9,y9,e10];simp) (tells_wills hp.wills hq.wills hs.wills true ⟨fun _=>e11,fun _=>rfl⟩) (tells_strs hp.user hq.user false ⟨fun k=>(by cases k),fun k=>absurd k e12⟩)).mono fun e w' ⟨he,hb⟩=>⟨⟨false,he,⟨fun k=>(by cases k),fun k=>absurd (by rw[k]) e12⟩⟩,hb⟩
 have e12:=Classical.not_not.1 e12
 rcases Classical.em (P.pass≠Q.pass)with e13 | e13
 ·exact (eqpk_no13 _ _ _ _ _ _ _ _ _ _ _ _ _ _ _ _ _ _ _ _ _ _ _ _ _ _ _ _ _ _ _ _ _ _ _ _ _ _ w (by rw[x0,y0,e0];simp) (by rw[x1,y1,e1];simp) (by rw[x2,y2,e2];simp) (by rw[x3,y3,e3];simp) (by rw[x4,y4,e4];simp) (by rw[x5,y5,e5];simp) (by rw[x6,y6,e6];simp) (tells_props hp.props hq.props hs.props true ⟨fun _=>e7,fun _=>rfl⟩) (by rw[x7,y7,e8];simp) (by rw[x8,y8,e9];simp) (by rw[x9,y9,e10];simp) (tells_wills hp.wills hq.wills hs.wills true ⟨fun _=>e11,fun _=>rfl⟩) (tells_strs hp.user hq.user true ⟨fun _=>e12,fun _=>rfl⟩) (tells_strs hp.pass hq.pass false ⟨fun k=>(by cases k),fun k=>absurd k e13⟩)).mono fun e w' ⟨he,hb⟩=>⟨⟨false,he,⟨fun k=>(by cases k),fun k=>absurd (by rw[k]) e13⟩⟩,hb⟩
 have e13:=Classical.not_not.1 e13
 rcases Classical.em (P.code≠Q.code)with e14 | e14
 ·exact (eqpk_no14 _ _ _ _ _ _ _ _ _ _ _ _ _ _ _ _ _ _ _ _ _ _ _ _ _ _ _ _ _ _ _ _ _ _ _ _ _ _ w (by rw[x0,y0,e0];simp) (by rw[x1,y1,e1];simp) (by rw[x2,y2,e2];simp) (by rw[x3,y3,e3];simp) (by rw[x4,y4,e4];simp) (by rw[x5,y5,e5];simp) (by rw[x6,y6,e6];simp) (tells_props hp.props hq.props hs.props true ⟨fun _=>e7,fun _=>rfl⟩) (by rw[x7,y7,e8];simp) (by rw[x8,y8,e9];simp) (by rw[x9,y9,e10];simp) (tells_wills hp.wills hq.wills hs.wills true ⟨fun _=>e11,fun _=>rfl⟩) (tells_strs hp.user hq.user true ⟨fun _=>e12,fun _=>rfl⟩) (tells_strs hp.pass hq.pass true ⟨fun _=>e13,fun _=>rfl⟩) (by rw[x10,y10];exact beq_false_of_ne e14)).mono fun e w' ⟨he,hb⟩=>⟨⟨false,he,⟨fun k=>(by cases k),fun k=>absurd (by rw[k]) e14⟩⟩,hb⟩
 have e14:=Classical.not_not.1 e14
 rcases Classical.em (P.session≠Q.session)with e15 | e15
 ·exact (eqpk_no15 _ _ _ _ _ _ _ _ _ _ _ _ _ _ _ _ _ _ _ _ _ _ _ _ _ _ _ _ _ _ _ _ _ _ _ _ _ _ w (by rw[x0,y0,e0];simp) (by rw[x1,y1,e1];simp) (by rw[x2,y2,e2];simp) (by rw[x3,y3,e3];simp) (by rw[x4,y4,e4];simp) (by rw[x5,y5,e5];simp) (by rw[x6,y6,e6];simp) (tells_props hp.props hq.props hs.props true ⟨fun _=>e7,fun _=>rfl⟩) (by rw[x7,y7,e8];simp) (by rw[x8,y8,e9];simp) (by rw[x9,y9,e10];simp) (tells_wills hp.wills hq.wills hs.wills true ⟨fun _=>e11,fun _=>rfl⟩) (tells_strs hp.user hq.user true ⟨fun _=>e12,fun _=>rfl⟩) (tells_strs hp.pass hq.pass true ⟨fun _=>e13,fun _=>rfl⟩) (by rw[x10,y10,e14];simp) (by rw[x11,y11];exact beq_false_of_ne e15)).mono fun e w' ⟨he,hb⟩=>⟨⟨false,he,⟨fun k=>(by cases k),fun k=>absurd (by rw[k]) e15⟩⟩,hb⟩
 have e15:=Classical.not_not.1 e15
 rcases Classical.em (P.subs≠Q.subs)with e16 | e16
 ·exact (eqpk_no16 _ _ _ _ _ _ _ _ _ _ _ _ _ _ _ _ _ _ _ _ _ _ _ _ _ _ _ _ _ _ _ _ _ _ _ _ _ _ w (by rw[x0,y0,e0];simp) (by rw[x1,y1,e1];simp) (by rw[x2,y2,e2];simp) (by rw[x3,y3,e3];simp) (by rw[x4,y4,e4];simp) (by rw[x5,y5,e5];simp) (by rw[x6,y6,e6];simp) (tells_props hp.props hq.props hs.props true ⟨fun _=>e7,fun _=>rfl⟩) (by rw[x7,y7,e8];simp) (by rw[x8,y8,e9];simp) (by rw[x9,y9,e10];simp) (tells_wills hp.wills hq.wills hs.wills true ⟨fun _=>e11,fun _=>rfl⟩) (tells_strs hp.user hq.user true ⟨fun _=>e12,fun _=>rfl⟩) (tells_strs hp.pass hq.pass true ⟨fun _=>e13,fun _=>rfl⟩) (by rw[x10,y10,e14];simp) (by rw[x11,y11,e15];simp) (tells_subs hp.subs hq.subs hs.subs false ⟨fun k=>(by cases k),fun k=>absurd k e16⟩)).mono fun e w' ⟨he,hb⟩=>⟨⟨false,he,⟨fun k=>(by cases k),fun k=>absurd (by rw[k]) e16⟩⟩,hb⟩
 have e16:=Classical.not_not.1 e16
 rcases Classical.em (P.filters≠Q.filters)with e17 | e17
 ·exact (eqpk_no17 _ _ _ _ _ _ _ _ _ _ _ _ _ _ _ _ _ _ _ _ _ _ _ _ _ _ _ _ _ _ _ _ _ _ _ _ _ _ w (by rw[x0,y0,e0];simp) (by rw[x1,y1,e1];simp) (by rw[x2,y2,e2];simp) (by rw[x3,y3,e3];simp) (by rw[x4,y4,e4];simp) (by rw[x5,y5,e5];simp) (by rw[x6,y6,e6];simp) (tells_props hp.props hq.props hs.props true ⟨fun _=>e7,fun _=>rfl⟩) (by rw[x7,y7,e8];simp) (by rw[x8,y8,e9];simp) (by rw[x9,y9,e10];simp) (tells_wills hp.wills hq.wills hs.wills true ⟨fun _=>e11,fun _=>rfl⟩) (tells_strs hp.user hq.user true ⟨fun _=>e12,fun _=>rfl⟩) (tells_strs hp.pass hq.pass true ⟨fun _=>e13,fun _=>rfl⟩) (by rw[x10,y10,e14];simp) (by rw[x11,y11,e15];simp) (tells_subs hp.subs hq.subs hs.subs true ⟨fun _=>e16,fun _=>rfl⟩) (tells_strs hp.filters hq.filters false ⟨fun k=>(by cases k),fun k=>absurd k e17⟩)).mono fun e w' ⟨he,hb⟩=>⟨⟨false,he,⟨fun k=>(by cases k),fun k=>absurd (by rw[k]) e17⟩⟩,hb⟩
 have e17:=Classical.not_not.1 e17
 rcases Classical.em (P.codes≠Q.codes)with e18 | e18
 ·exact (eqpk_no18 _ _ _ _ _ _ _ _ _ _ _ _ _ _ _ _ _ _ _ _ _ _ _ _ _ _ _ _ _ _ _ _ _ _ _ _ _ _ w (by rw[x0,y0,e0];simp) (by rw[x1,y1,e1];simp) (by rw[x2,y2,e2];simp) (by rw[x3,y3,e3];simp) (by rw[x4,y4,e4];simp) (by rw[x5,y5,e5];simp) (by rw[x6,y6,e6];simp) (tells_props hp.props hq.props hs.props true ⟨fun _=>e7,fun _=>rfl⟩) (by rw[x7,y7,e8];simp) (by rw[x8,y8,e9];simp) (by rw[x9,y9,e10];simp) (tells_wills hp.wills hq.wills hs.wills true ⟨fun _=>e11,fun _=>rfl⟩) (tells_strs hp.user hq.user true ⟨fun _=>e12,fun _=>rfl⟩) (tells_strs hp.pass hq.pass true ⟨fun _=>e13,fun _=>rfl⟩) (by rw[x10,y10,e14];simp) (by rw[x11,y11,e15];simp) (tells_subs hp.subs hq.subs hs.subs true ⟨fun _=>e16,fun _=>rfl⟩) (tells_strs hp.filters hq.filters true ⟨fun _=>e17,fun _=>rfl⟩) (tells_nums hp.codes hq.codes false ⟨fun k=>(by cases k),fun k=>absurd k e18⟩)).mono fun e w' ⟨he,hb⟩=>⟨⟨false,he,⟨fun k=>(by cases k),fun k=>absurd (by rw[k]) e18⟩⟩,hb⟩
 have e18:=Classical.not_not.1 e18
 exact (eqpk_yes _ _ _ _ _ _ _ _ _ _ _ _ _ _ _ _ _ _ _ _ _ _ _ _ _ _ _ _ _ _ _ _ _ _ _ _ _ _ w (by rw[x0,y0,e0];simp) (by rw[x1,y1,e1];simp) (by rw[x2,y2,e2];simp) (by rw[x3,y3,e3];simp) (by rw[x4,y4,e4];simp) (by rw[x5,y5,e5];simp) (by rw[x6,y6,e6];simp) (tells_props hp.props hq.props hs.props true ⟨fun _=>e7,fun _=>rfl⟩) (by rw[x7,y7,e8];simp) (by rw[x8,y8,e9];simp) (by rw[x9,y9,e10];simp) (tells_wills hp.wills hq.wills hs.wills true ⟨fun _=>e11,fun _=>rfl⟩) (tells_strs hp.user hq.user true ⟨fun _=>e12,fun _=>rfl⟩) (tells_strs hp.pass hq.pass true ⟨fun _=>e13,fun _=>rfl⟩) (by rw[x10,y10,e14];simp) (by rw[x11,y11,e15];simp) (tells_subs hp.subs hq.subs hs.subs true ⟨fun _=>e16,fun _=>rfl⟩) (tells_strs hp.filters hq.filters true ⟨fun _=>e17,fun _=>rfl⟩) (tells_nums hp.codes hq.codes true ⟨fun _=>e18,fun _=>rfl⟩)).mono fun e w' ⟨he,hb⟩=>⟨⟨true,he,⟨fun _=>(by
  obtain⟨p0,p1,p2,p3,p4,p5,p6,p7,p8,p9,p10,p11,p12,p13,p14,p15,p16,p17,p18⟩:=P
  obtain⟨q0,q1,q2,q3,q4,q5,q6,q7,q8,q9,q10,q11,q12,q13,q14,q15,q16,q17,q18⟩:=Q
  exact Pa.mk.injEq .. ▸ ⟨e0,e1,e2,e3,e4,e5,e6,e7,e8,e9,e10,e11,e12,e13,e14,e15,e16,e17,e18⟩),fun _=>rfl⟩⟩,hb⟩
def tlB (P:Pa) (c E:Bool):Bool:=c && (E && (decide (P.props.length=0) || okP P.kind P.props))
def pubO (topic:ByteArray) (qos id:Int) (dup:Bool):Bool:=okT topic && (decide (0<=qos) && (decide (qos<=2) && (if qos=0 then decide (id=0) && !dup else idO id)))
def con0 (client:ByteArray) (keep:Int) (nw nu np:Nat):Bool:=okT client && (decide (0<=keep) && (decide (keep<=65535) && (decide (nw<=1) && (decide (nu<=1) && decide (np<=1)))))
def con1 (ws:List Wl):Bool:=if ws.length=1 then mwB (ws.getD 0 wl0) else true
def con2 (us:List ByteArray):Bool:=if us.length=1 then okT (us.getD 0 ⟨#[]⟩) else true
def con3 (ps:List ByteArray):Bool:=if ps.length=1 then okB (ps.getD 0 ⟨#[]⟩) else true
def conO (client:ByteArray) (keep:Int) (ws:List Wl) (us ps:List ByteArray):Bool:=con0 client keep ws.length us.length ps.length && (con1 ws && (con2 us && con3 ps))
theorem heq_of {x q:Pkv} {XP P:Pa} {E:Bool} {w:World} (hx:RPk w x XP) (hq:RPk w q P) (hs:Small XP) (hE:E=true ↔ XP=P):∀ W,Below w.heap.size w W->Calls Tryz.prog 24 #[.agg x.cells.toArray,.agg q.cells.toArray] W fun e w'=>e=.returned (.bool E)/\Below W.heap.size W w':=fun W hW=>by
 refine (eqpk_any x q XP P W (hx.below hW) (hq.below hW) hs).mono ?_
 rintro e w' ⟨⟨b,rfl,hb⟩,hbel⟩
 obtain rfl:b=E:=Bool.eq_iff_iff.2 (hb.trans hE.symm)
 exact⟨rfl,hbel⟩
def mayA (P:Pa):Bool :=
 if P.kind=1 then tlB P (conO P.client P.keep P.wills P.user P.pass) (empA P.no_clean.no_keep.no_props.no_client.no_wills.no_user.no_pass)
 else if P.kind=2 then tlB P (codeO P.code) (empA P.no_session.no_code.no_props)
 else if P.kind=3 then tlB P (pubO P.topic P.qos P.id P.dup) (empA P.no_dup.no_retain.no_topic.no_qos.no_id.no_props.no_payload)
 else if P.kind=4\/P.kind=5\/P.kind=6\/P.kind=7 then tlB P (idO P.id && codeO P.code) (empA P.no_id.no_code.no_props)
 else if P.kind=8 then tlB P ((idO P.id && mc P.subs.length) && P.subs.all msB) (empA P.no_id.no_props.no_subs)
 else if P.kind=10 then tlB P ((idO P.id && mc P.filters.length) && P.filters.all okT) (empA P.no_id.no_props.no_filters)
 else if P.kind=9\/P.kind=11 then tlB P ((idO P.id && mc P.codes.length) && P.codes.all codeO) (empA P.no_id.no_props.no_codes)
 else if P.kind=12\/P.kind=13 then tlB P (true) (empA P)
 else if P.kind=14\/P.kind=15 then tlB P (codeO P.code) (empA P.no_code.no_props)
 else false
structure Mid (P:Pa):Prop where
 big:Big P
 props:P.props.length<=1000000000
 wprops:∀ k,k < P.wills.length->(P.wills.getD k wl0).props.length<=1000000000/\(P.wills.getD k wl0).payload.size<=4611686018427387904
 pass:∀ k,k < P.pass.length->(P.pass.getD k ⟨#[]⟩).size<=4611686018427387904
def gbd (P:Pa):List Int :=
 if P.kind=1 then ((((((((tx gmq++[5])++[(gcf P.user.length P.pass.length P.clean+gwf P.wills) % 256])++b2 P.keep)++pbs P.props)++tx P.client)++P.wills.flatMap gwl)++P.user.flatMap tx)++P.pass.flatMap tx)
 else if P.kind=2 then [fv P.session 1 % 256,P.code % 256]++pbs P.props
 else if P.kind=3 then (if 0 < P.qos then ((tx P.topic++b2 P.id)++pbs P.props)++sb P.payload else (tx P.topic++pbs P.props)++sb P.payload)
 else if P.kind=4\/P.kind=5\/P.kind=6\/P.kind=7 then b2 P.id++gtl P.code P.props
 else if P.kind=12\/P.kind=13 then []
 else if P.kind=14\/P.kind=15 then gtl P.code P.props
 else (((b2 P.id++pbs P.props)++P.subs.flatMap gsub)++P.filters.flatMap tx)++P.codes.flatMap gcod
theorem okP_nil (k:Int) {l:List Pr} (h:l.length=0):okP k l=true:=by
 rw[List.length_eq_zero_iff.1 h]
 unfold okP chkP
 simp
theorem tlB_ok {P:Pa} {c E:Bool} (h:tlB P c E=true):c=true/\E=true/\okP P.kind P.props=true:=by
 unfold tlB at h
 rw[Bool.and_eq_true,Bool.and_eq_true,Bool.or_eq_true]at h
 refine⟨h.1,h.2.1,?_⟩
 rcases h.2.2 with k | k
 ·exact okP_nil _ (of_decide_eq_true k)
 ·exact k
theorem okT_le {s:ByteArray} (h:okT s=true):s.size<=65535:=by
 have:=chk_0 (of_decide_eq_true h)
 rw[sb_length]at this
 exact this
theorem all_at {α:Type} {f:α->Bool} {l:List α} (d:α) (h:l.all f=true) (k:Nat) (hk:k < l.length):f (l.getD k d)=true:=by
 rw[List.getD_eq_getElem?_getD,List.getElem?_eq_getElem hk]
 exact List.all_eq_true.1 h _ (List.getElem_mem hk)
theorem conO_ok {P:Pa} (h:conO P.client P.keep P.wills P.user P.pass=true):P.client.size<=65535/\(P.wills.length<=1/\P.user.length<=1/\P.pass.length<=1)/\(∀ k,k < P.wills.length->(P.wills.getD k wl0).topic.size<=65535/\(P.wills.getD k wl0).payload.size<=65535/\0<=(P.wills.getD k wl0).qos/\(P.wills.getD k wl0).qos<=2/\okP 16 (P.wills.getD k wl0).props=true)/\(∀ k,k < P.user.length->(P.user.getD k ⟨#[]⟩).size<=65535)/\(∀ k,k < P.pass.length->(P.pass.getD k ⟨#[]⟩).size<=65535):=by
 unfold conO con0 con1 con2 con3 at h
 simp only[Bool.and_eq_true,decide_eq_true_eq]at h
 obtain⟨⟨h1,h2,h3,h4,h5,h6⟩,h7,h8,h9⟩:=h
 refine⟨okT_le h1,⟨h4,h5,h6⟩,fun k hk=>?_,fun k hk=>?_,fun k hk=>?_⟩
 ·obtain rfl:k=0:=by omega
  rw[if_pos (by omega)]at h7
  unfold mwB at h7
  simp only[Bool.and_eq_true,decide_eq_true_eq]at h7
  exact⟨okT_le h7.1,of_decide_eq_true h7.2.1,h7.2.2.1,h7.2.2.2.1,h7.2.2.2.2⟩
 ·obtain rfl:k=0:=by omega
  rw[if_pos (by omega)]at h8
  exact okT_le h8
 ·obtain rfl:k=0:=by omega
  rw[if_pos (by omega)]at h9
  exact of_decide_eq_true h9
theorem emp_lists {P:Pa} (h:empA P=true):P.subs.length=0/\P.filters.length=0/\P.codes.length=0:=by
 have:=of_decide_eq_true h
 exact this.2.2.2.2.2.2.2
structure LsOk (P:Pa):Prop where
 okp:okP P.kind P.props=true
 ns:P.subs.length<=16
 nf:P.filters.length<=16
 nc:P.codes.length<=16
 zs:∀ k,k < P.subs.length->(P.subs.getD k sb0).filter.size<=65535/\0<=(P.subs.getD k sb0).qos/\(P.subs.getD k sb0).qos<=3/\0<=(P.subs.getD k sb0).handling/\(P.subs.getD k sb0).handling<=3
 zf:∀ k,k < P.filters.length->(P.filters.getD k ⟨#[]⟩).size<=65535
theorem mc_le {n:Nat} (h:mc (n:Int)=true):n<=16:=by
 unfold mc at h
 simp only[Bool.and_eq_true,decide_eq_true_eq]at h
 omega
theorem ls_8 {P:Pa} (h:tlB P ((idO P.id && mc P.subs.length) && P.subs.all msB) (empA P.no_id.no_props.no_subs)=true):LsOk P:=by
 obtain⟨h1,h2,h3⟩:=tlB_ok h
 simp only[Bool.and_eq_true]at h1
 obtain⟨-,e2,e3⟩:=emp_lists h2
 have e2:P.filters.length=0:=e2
 have e3:P.codes.length=0:=e3
 refine⟨h3,mc_le h1.1.2,by omega,by omega,fun k hk=>?_,fun k hk=>by omega⟩
 have:=all_at sb0 h1.2 k hk
 unfold msB at this
 simp only[Bool.and_eq_true,decide_eq_true_eq]at this
 exact⟨okT_le this.1,this.2.1,by omega,this.2.2.2.1,by omega⟩
theorem ls_10 {P:Pa} (h:tlB P ((idO P.id && mc P.filters.length) && P.filters.all okT) (empA P.no_id.no_props.no_filters)=true):LsOk P:=by
 obtain⟨h1,h2,h3⟩:=tlB_ok h
 simp only[Bool.and_eq_true]at h1
 obtain⟨e1,-,e3⟩:=emp_lists h2
 have e1:P.subs.length=0:=e1
 have e3:P.codes.length=0:=e3
 exact⟨h3,by omega,mc_le h1.1.2,by omega,fun k hk=>by omega,fun k hk=>okT_le (all_at ⟨#[]⟩ h1.2 k hk)⟩
theorem ls_9 {P:Pa} (h:tlB P ((idO P.id && mc P.codes.length) && P.codes.all codeO) (empA P.no_id.no_props.no_codes)=true):LsOk P:=by
 obtain⟨h1,h2,h3⟩:=tlB_ok h
 simp only[Bool.and_eq_true]at h1
 obtain⟨e1,e2,-⟩:=emp_lists h2
 have e1:P.subs.length=0:=e1
 have e2:P.filters.length=0:=e2
 exact⟨h3,by omega,by omega,mc_le h1.1.2,fun k hk=>by omega,fun k hk=>by omega⟩
theorem gtl_len {code:Int} {l:List Pr} (h:(pbs l).length<=5000000):(gtl code l).length<=5000001:=by
 unfold gtl
 split
 ·simp;omega
 ·split <;> simp
theorem flat_len {α:Type} (f:α->List Int) (d:α) (c:Nat) (l:List α) (h:∀ k,k < l.length->(f (l.getD k d)).length<=c):(l.flatMap f).length<=l.length * c:=by
 induction l with
 | nil=>simp
 | cons a t ih =>
  rw[List.flatMap_cons,List.length_append,List.length_cons,Nat.succ_mul]
  have h0:=h 0 (by simp)
  have:=ih fun k hk=>h (k+1) (by rw[List.length_cons];omega)
  have h0:(f a).length<=c:=h0
  omega
theorem gbd_len {P:Pa} (hM:mayA P=true) (hpy:P.payload.size<=1073741824):(gbd P).length<=1200000000:=by
 have hls:LsOk P->((((b2 P.id++pbs P.props)++P.subs.flatMap gsub)++P.filters.flatMap tx)++P.codes.flatMap gcod).length<=1200000000:=fun h=>by
  have h1:=pbs_le (of_decide_eq_true h.okp)
  have h2:=flat_len gsub sb0 65538 P.subs fun k hk=>by
   have:=(h.zs k hk).1
   unfold gsub
   rw[List.length_append,tx_length,List.length_singleton]
   omega
  have h3:=flat_len tx ⟨#[]⟩ 65537 P.filters fun k hk=>by
   have:=h.zf k hk
   rw[tx_length]
   omega
  have h4:=flat_len gcod 0 1 P.codes fun k hk=>by simp[gcod]
  have h5:=h.ns
  have h6:=h.nf
  have h7:=h.nc
  rw[List.length_append,List.length_append,List.length_append,List.length_append]
  have h8:(b2 P.id).length=2:=by simp
  omega
 unfold mayA at hM
 unfold gbd
 by_cases k1:P.kind=1
 ·rw[if_pos k1]at hM |-
  obtain⟨hc,-,hok⟩:=tlB_ok hM
  obtain⟨c1,⟨c2,c3,c4⟩,c5,c6,c7⟩:=conO_ok hc
  have h1:=pbs_le (of_decide_eq_true hok)
  have h2:=flat_len gwl wl0 5131074 P.wills fun k hk=>by
   obtain⟨d1,d2,-,-,d3⟩:=c5 k hk
   have d4:=pbs_le (of_decide_eq_true d3)
   unfold gwl
   rw[List.length_append,List.length_append,tx_length,tx_length]
   omega
  have h3:=flat_len tx ⟨#[]⟩ 65537 P.user fun k hk=>by
   have:=c6 k hk
   rw[tx_length]
   omega
  have h4:=flat_len tx ⟨#[]⟩ 65537 P.pass fun k hk=>by
   have:=c7 k hk
   rw[tx_length]
   omega
  have h5:(b2 P.keep).length=2:=by simp
  have h6:gmq.size=4:=by rfl
  simp only[List.length_append,tx_length,List.length_cons,List.length_nil]
  omega
 rw[if_neg k1]at hM |-
 by_cases k2:P.kind=2
 ·rw[if_pos k2]at hM |-
  have h1:=pbs_le (of_decide_eq_true (tlB_ok hM).2.2)
  simp only[List.length_append,List.length_cons,List.length_nil]
  omega
 rw[if_neg k2]at hM |-
 by_cases k3:P.kind=3
 ·rw[if_pos k3]at hM |-
  have h1:=pbs_le (of_decide_eq_true (tlB_ok hM).2.2)
  have hc:=(tlB_ok hM).1
  unfold pubO at hc
  simp only[Bool.and_eq_true]at hc
  have h2:=okT_le hc.1
  have h5:(b2 P.id).length=2:=by simp
  split
  ·simp only[List.length_append,tx_length,sb_length]
   omega
  ·simp only[List.length_append,tx_length,sb_length]
   omega
 rw[if_neg k3]at hM |-
 by_cases k4:P.kind=4\/P.kind=5\/P.kind=6\/P.kind=7
 ·rw[if_pos k4]at hM |-
  have h1:=gtl_len (code:=P.code) (pbs_le (of_decide_eq_true (tlB_ok hM).2.2))
  have h5:(b2 P.id).length=2:=by simp
  rw[List.length_append]
  omega
 rw[if_neg k4]at hM |-
 by_cases k12:P.kind=12\/P.kind=13
 ·rw[if_pos k12]
  simp
 by_cases k14:P.kind=14\/P.kind=15
 ·rw[if_neg k12,if_pos k14]
  rw[if_neg (by omega),if_neg (by omega),if_neg (by omega),if_neg k12,if_pos k14]at hM
  have h1:=gtl_len (code:=P.code) (pbs_le (of_decide_eq_true (tlB_ok hM).2.2))
  omega
 rw[if_neg k12,if_neg k14]
 refine hls ?_
 by_cases k8:P.kind=8
 ·rw[if_pos k8]at hM
  exact ls_8 hM
 rw[if_neg k8]at hM
 by_cases k10:P.kind=10
 ·rw[if_pos k10]at hM
  exact ls_10 hM
 rw[if_neg k10]at hM
 by_cases k9:P.kind=9\/P.kind=11
 ·rw[if_pos k9]at hM
  exact ls_9 hM
 rw[if_neg k9,if_neg k12,if_neg k14]at hM
 cases hM
theorem mayA_kind {P:Pa} (hM:mayA P=true):1<=P.kind/\P.kind<=15/\(0<=P.qos/\P.qos<=2\/P.kind≠3):=by
 by_cases k3:P.kind=3
 ·unfold mayA at hM
  rw[if_neg (by omega),if_neg (by omega),if_pos k3]at hM
  have hc:=(tlB_ok hM).1
  unfold pubO at hc
  simp only[Bool.and_eq_true,decide_eq_true_eq]at hc
  exact⟨by omega,by omega,.inl ⟨hc.2.1,hc.2.2.1⟩⟩
 ·refine⟨?_,?_,.inr k3⟩ <;>
  ·refine Classical.byContradiction fun hn=>?_
   unfold mayA at hM
   rw[if_neg (by omega),if_neg (by omega),if_neg (by omega),if_neg (by omega),if_neg (by omega),if_neg (by omega),if_neg (by omega),if_neg (by omega),if_neg (by omega)]at hM
   cases hM
theorem br_may_3 {P:Pa} (h:P.kind=3) (X:Bool) (hX:tlB P (pubO P.topic P.qos P.id P.dup) (empA P.no_dup.no_retain.no_topic.no_qos.no_id.no_props.no_payload)=X):mayA P=X:=by
 unfold mayA
 rw[if_neg (by omega),if_neg (by omega),if_pos h]
 exact hX
theorem tlB_eq (P:Pa) (c E:Bool):tlB P c E=(c && (E && okP P.kind P.props)):=by
 unfold tlB
 by_cases h:P.props.length=0
 ·rw[decide_eq_true h,okP_nil _ h];rfl
 ·rw[decide_eq_false h];rfl
theorem pok_of {P:Pa} (h:P.kind=3) (hM:mayA P=true):pok P.dup P.qos=true:=by
 rw[br_may_3 h _ rfl]at hM
 have hc:=(tlB_ok hM).1
 unfold pubO at hc
 simp only[Bool.and_eq_true,decide_eq_true_eq]at hc
 obtain⟨-,h0,h2,h3⟩:=hc
 unfold pok mq
 by_cases hq:P.qos=0
 ·rw[if_pos hq]at h3
  simp only[Bool.and_eq_true]at h3
  simp[hq]
  simpa using h3.2
 ·simp[h0,h2]
  exact .inl (by omega)
theorem fk_of {P:Pa} (hM:mayA P=true):(fkA P).2=true:=by
 unfold fkA
 by_cases h:P.kind=3
 ·rw[if_pos h]
  exact pok_of h hM
 ·rw[if_neg h]
  obtain⟨h1,h2,-⟩:=mayA_kind hM
  by_cases h6:P.kind=6\/P.kind=8\/P.kind=10
  ·rw[if_pos h6]
  ·rw[if_neg h6]
   show (decide _ && decide _)=true
   rw[decide_eq_true h1,decide_eq_true h2]
   rfl
theorem fb_eq {P:Pa} (hM:mayA P=true):fb P.kind (fkA P).1=16 * P.kind+gfl P.kind P.dup P.qos P.retain:=by
 obtain⟨h1,h2,h3⟩:=mayA_kind hM
 unfold fkA gfl
 generalize P.dup=d
 generalize P.retain=r
 generalize P.qos=q at h3
 generalize P.kind=k at h1 h2 h3
 by_cases hk:k=3
 ·subst hk
  have h3:0<=q/\q<=2:=by rcases h3 with h | h;(· exact h);(· exact absurd rfl h)
  obtain⟨h4,h5⟩:=h3
  obtain rfl | rfl | rfl:q=0\/q=1\/q=2:=by omega
  all_goals cases d <;> cases r <;> decide +kernel
 ·rw[if_neg hk]
  by_cases h6:k=6\/k=8\/k=10
  ·rw[if_pos h6,if_pos h6]
   rcases h6 with rfl | rfl | rfl <;> decide +kernel
  ·rw[if_neg h6,if_neg h6,if_neg hk]
   clear h3 hM
   obtain rfl | rfl | rfl | rfl | rfl | rfl | rfl | rfl | rfl | rfl | rfl:k=1\/k=2\/k=4\/k=5\/k=7\/k=9\/k=11\/k=12\/k=13\/k=14\/k=15:=by omega
   all_goals decide +kernel
theorem ebytes_eq {P:Pa} (hM:mayA P=true):ebytes P.kind (fkA P).1 (gbd P)=gbytes P.kind (gfl P.kind P.dup P.qos P.retain) (gbd P):=by
 unfold ebytes gbytes
 rw[fb_eq hM]
def pby (P:Pa):List Int:=gbytes P.kind (gfl P.kind P.dup P.qos P.retain) (gbd P)
def EncR (P:Pa) (w:World) (e:Ending) (w':World):Prop:=Below w.heap.size w w' /\
 ((mayA P=false/\∃ x,e=.returned (.tuple #[.slice none 0 0,.iface 125 x])/\Hid (ErP w' (.iface 125 x) 1)) \/
  (mayA P=true/\65536 < (pby P).length/\∃ x,e=.returned (.tuple #[.slice none 0 0,.iface 125 x])/\Hid (ErP w' (.iface 125 x) 2)) \/
  (mayA P=true/\(pby P).length<=65536/\∃ v,e=.returned (.tuple #[v,.nilIface])/\Hid (Rwb w' w.heap.size v (pby P))))
theorem num4 (v:Value) (n:Int) (w:World) (hg:Laid w) (hv:ErrX w v n):Calls Tryz.prog 21 #[v] w fun e w'=>e=.returned (.int .i64 n)/\Below w.heap.size w w':=by
 have HG:=zh hg
 have HV:=zh hv
 clear hg hv
 go_enter Tryz.func21,Tryz.ntmps21
 go_wp2_with (go_at_call 43;refine (numx v n _ (uh HG) (uh HV)).mono ?_;rintro e w' ⟨rfl,hb⟩)
 go_ret
 exact⟨rfl,hb⟩
theorem num4_nil (w:World):Calls Tryz.prog 21 #[.nilIface] w fun e w'=>e=.returned (.int .i64 0)/\w'=w:=by
 go_enter Tryz.func21,Tryz.ntmps21
 go_wp2_with (go_at_call 43;refine (num_nil _).mono ?_;rintro e w' ⟨rfl,rfl⟩)
 go_ret
 exact⟨rfl,rfl⟩
theorem two_byt (w:World):Byt (w.alloc (.cells #[.int .u8 192,.int .u8 0] 5)) (.slice (some ⟨w.heap.size,0,none⟩) 2 2) [192,0]:=by
 refine⟨_,2,rfl,⟨by simp,by unfold maxLen;simp⟩,?_,.inr ⟨w.heap.size,0,rfl,?_⟩⟩
 ·intro j;rcases j with _ | _ | j <;> simp
 ·intro j hj;rcases j with _ | _ | j
  ·simp
  ·simp
  ·simp at hj;omega
theorem wakes4 (w:World):Calls Tryz.prog 27 #[] w fun e w'=>e=.returned (.bool true)/\Below w.heap.size w w':=by
 have HEN:Hid (∀ W:World,Calls Tryz.prog 19 #[.agg #[.int .i64 12,.bool false,.int .i64 0,.bool false,.string ⟨#[]⟩,.int .i64 0,.string ⟨#[]⟩,.slice none 0 0,.string ⟨#[]⟩,.bool false,.int .i64 0,.slice none 0 0,.slice none 0 0,.slice none 0 0,.int .i64 0,.bool false,.slice none 0 0,.slice none 0 0,.slice none 0 0]] W fun e w'=>∃ v,e=.returned (.tuple #[v,.nilIface])/\Hid (Byt w' v [192,0])/\Below W.heap.size W w'):=fun W=>enc_ping W
 go_enter Tryz.func27,Tryz.ntmps27
 go_wp2_with fail
 refine ((uh HEN) w).mono ?_
 rintro e w1 ⟨v,rfl,hy,hb1⟩
 have ha:Hid (Byt (w1.alloc (.cells #[.int .u8 192,.int .u8 0] 5)) v [192,0]):=(uh hy).below (bal _ _)
 have hbb:=zh (two_byt w1)
 have HB1:=zh hb1
 clear hb1 hy
 go_wp2_with (first | (go_at_call 21;refine (num4_nil _).mono ?_;rintro e w' ⟨rfl,hw⟩;obtain rfl:=hw.symm;clear hw) | (go_at_call 22;refine (eq_any _ _ [192,0] [192,0] _ (uh ha) (uh hbb)).mono ?_;rintro e w' ⟨rfl,q,rfl⟩))
 go_ret
 exact⟨rfl,below_drewN ((uh HB1).alloc (uh HB1).size _) _⟩
structure SF (B:Nat) (T:Nat->TypeId->Prop) (w w':World):Prop where
 os:w'.os=w.os
 tape:w'.tape=w.tape
 output:w'.output=w.output
 size:w.heap.size<=w'.heap.size
 low:∀ k:Nat,k < B->w'.heap[k]?=w.heap[k]?
 same:∀ (k:Nat) (cur:Array Value) (e:TypeId),w.heap[k]?=some (Obj.cells cur e (0,0))->¬ T k e->w'.heap[k]?=some (Obj.cells cur e (0,0))
 shp:∀ (k:Nat) (cur:Array Value) (e:TypeId),w.heap[k]?=some (Obj.cells cur e (0,0))->∃ cur',w'.heap[k]?=some (Obj.cells cur' e (0,0))/\cur'.size=cur.size
theorem SF.refl (B:Nat) (T:Nat->TypeId->Prop) (w:World):SF B T w w:=⟨rfl,rfl,rfl,Nat.le_refl _,fun _ _=>rfl,fun _ _ _ h _=>h,fun _ cur _ h=>⟨cur,h,rfl⟩⟩
theorem SF.trans {B:Nat} {T:Nat->TypeId->Prop} {a b c:World} (h:SF B T a b) (k:SF B T b c):SF B T a c :=
 ⟨k.os.trans h.os,k.tape.trans h.tape,k.output.trans h.output,Nat.le_trans h.size k.size,fun i hi=>(k.low i hi).trans (h.low i hi),fun i cur e h1 h2=>k.same i cur e (h.same i cur e h1 h2) h2,fun i cur e h1=>by
  obtain⟨cur1,h2,h3⟩:=h.shp i cur e h1
  obtain⟨cur2,h4,h5⟩:=k.shp i cur1 e h2
  exact⟨cur2,h4,h5.trans h3⟩⟩
theorem SF.weak {B:Nat} {T T':Nat->TypeId->Prop} {a b:World} (h:SF B T a b) (ht:∀ k e,T k e->T' k e):SF B T' a b:=⟨h.os,h.tape,h.output,h.size,h.low,fun k cur e h1 h2=>h.same k cur e h1 (fun x=>h2 (ht k e x)),h.shp⟩
theorem SF.below {B:Nat} {T:Nat->TypeId->Prop} {a b:World} (h:SF B T a b):Below B a b:=⟨h.os,h.tape,h.output,h.size,h.low⟩
theorem SF.grow {B:Nat} {T:Nat->TypeId->Prop} {a b:World} (hs:b.heap.size ≥ a.heap.size) (h1:b.os=a.os) (h2:b.tape=a.tape) (h3:b.output=a.output) (hB:B<=a.heap.size) (h:∀ k,k < a.heap.size->b.heap[k]?=a.heap[k]?):SF B T a b :=
 ⟨h1,h2,h3,hs,fun k hk=>h k (by omega),fun k cur e hk _=>(h k (Array.getElem?_eq_some_iff.1 hk).1).trans hk,fun k cur e hk=>⟨cur,(h k (Array.getElem?_eq_some_iff.1 hk).1).trans hk,rfl⟩⟩
theorem SF.bel {B:Nat} {T:Nat->TypeId->Prop} {a b:World} (h:Below a.heap.size a b) (hB:B<=a.heap.size):SF B T a b:=SF.grow h.size h.os h.tape h.output hB h.block
theorem SF.set {B:Nat} {T:Nat->TypeId->Prop} {a b:World} (h:SF B T a b) (g j:Nat) (u:Value) (hg:B<=g) (cur:Array Value) (e:TypeId) (hb:b.heap[g]?=some (Obj.cells cur e (0,0))) (ht:T g e):SF B T a (b.setCell ⟨g,j,none⟩ u) :=
 h.trans ⟨rfl,rfl,rfl,by simp[World.setCell],fun k hk=>Below.heap_setCell _ _ _ _ (by show k≠g;omega),fun k cur' e' h1 h2=>by
  by_cases hk:k=g
  ·subst hk
   rw[hb]at h1
   cases h1
   exact absurd ht h2
  ·exact (Below.heap_setCell _ _ _ _ hk).trans h1,fun k cur' e' h1=>by
  by_cases hk:k=g
  ·subst hk
   refine⟨cur'.setIfInBounds j u,?_,by simp⟩
   unfold World.setCell
   simp[Array.getElem?_modify,h1]
  ·exact⟨cur',(Below.heap_setCell _ _ _ _ hk).trans h1,rfl⟩⟩
def OwnE (w:World) (B:Nat) (e:TypeId) (s:Nat) (v:Value) (n:Nat):Prop:=∃ xs,w.ownsRow B e s v n xs
theorem OwnE.cell {w:World} {B:Nat} {e:TypeId} {s g n cap:Nat} (h:OwnE w B e s (.slice (some ⟨g,0,none⟩) n cap) n) (i:Nat) (hi:i < n * s):(∃ v,w.cell? ⟨g,i,none⟩=some v)/\w.frozen? ⟨g,i,none⟩=false:=by
 obtain⟨xs,h⟩:=h
 have hl:xs.length=n * s:=h.1
 exact⟨⟨_,by rw[h.cellAt i (by omega),List.getElem?_eq_getElem (by omega)]⟩,h.frozenAt i⟩
theorem OwnE.blk {w:World} {B:Nat} {e:TypeId} {s g n cap:Nat} (h:OwnE w B e s (.slice (some ⟨g,0,none⟩) n cap) n):B<=g/\∃ cur,w.heap[g]?=some (Obj.cells cur e (0,0)):=by
 obtain⟨xs,h1,h2⟩:=h
 rcases h2 with⟨h2,_⟩ | ⟨g',cap',cur,e',hB,hg,_⟩
 ·cases h2
 ·cases e'
  exact⟨hB,cur,hg⟩
def SFg (B:Nat) (T:Nat->TypeId->Prop) (w w':World) (g:Nat) (e:TypeId):Prop:=SF B T w w'/\B<=g/\T g e/\∃ cur,w'.heap[g]?=some (Obj.cells cur e (0,0))
theorem SFg.set {B:Nat} {T:Nat->TypeId->Prop} {w w':World} {g:Nat} {e:TypeId} (h:SFg B T w w' g e) (j:Nat) (u:Value):SFg B T w (w'.setCell ⟨g,j,none⟩ u) g e:=by
 obtain⟨h1,h2,h3,cur,h4⟩:=h
 refine⟨h1.set g j u h2 cur e h4 h3,h2,h3,cur.setIfInBounds j u,?_⟩
 unfold World.setCell
 simp[Array.getElem?_modify,h4]
theorem dec_flag (bl off cap:Nat) (l:List Int) (w:World) (h:Byt w (.slice (some ⟨bl,off,none⟩) l.length cap) l) (hl:l≠[]) (hok:bok (l.getD 0 0)=false):Calls Tryz.prog 23 #[.slice (some ⟨bl,off,none⟩) l.length cap] w (DecPost l w):=by
 have HPN:=zh (pk_new w pkz)
 have HBN:Hid (Below w.heap.size w (w.alloc (.cells pkz.cells.toArray 31))):=bal _ _
 have hl1:1<=l.length:=List.length_pos_iff.2 hl
 obtain⟨hc1,hc2⟩:l.length<=cap/\cap<=maxLen:=by
  obtain⟨ao',cap',e,k1,k2⟩:=h.form
  simp only[Value.slice.injEq]at e
  obtain⟨_,_,rfl⟩:=e
  exact⟨k1,k2⟩
 unfold maxLen at hc2
 have hr0:=h.range 0
 have hbl:w.cell? ⟨bl,off,none⟩=some (.int .u8 (l.getD 0 0)):=by
  obtain⟨ao',cap',e',_,_,hcase⟩:=h
  simp only[Value.slice.injEq]at e'
  obtain⟨rfl,_,rfl⟩:=e'
  rcases hcase with h0 | ⟨b',off',e2,hc⟩
  ·exact absurd h0 hl
  ·simp only[Option.some.injEq,Addr.mk.injEq]at e2
   obtain⟨rfl,rfl,_⟩:=e2
   exact hc 0 (by omega)
 have hcl:=cell_lt hbl
 have HH:=zh h
 have HL:=zh hl
 generalize hn:l.length=n at hc1 hl1 HH
 have HN:=zh hn
 obtain⟨b,hb⟩:∃ b,l.getD 0 0=b:=⟨_,rfl⟩
 rw[hb]at hr0 hbl hok
 have HB0:=zh hb
 clear h hl hn hb
 have HDN:Hid (dnum l=1):=by
  show _=_
  unfold dnum
  rw[if_neg (uh HL),uh HB0,if_pos hok]
 go_enter Tryz.func23,Tryz.ntmps23
 go_wp2_with fail
 refine (begin_any b hr0.1 hr0.2 _).mono ?_
 rintro e w1 ⟨rfl,hb1⟩
 have HP1:=zh ((uh HPN).below hb1)
 have HB1:Hid (Below w.heap.size w w1):=(uh HBN).trans (hb1.mono (uh HBN).size)
 clear hb1 HPN HBN hbl hcl
 dsimp only
 iterate 10 go_step
 refine wpList_store_mid rfl 31 _ _ rfl w.heap.size 0 (bpk b).cells.toArray rfl rfl ((uh HP1).there _) packet_size (Pkv.ones' _) ?_
 simp only[Act.put]
 have HP2:=zh ((uh HP1).stored (bpk b))
 have HB2:Hid (Below w.heap.size w (w1.setCells w.heap.size 0 (bpk b).cells)):=setCells_below (uh HB1) (Nat.le_refl _)
 generalize w1.setCells w.heap.size 0 (bpk b).cells=w2 at HP2 HB2 |-
 clear HP1 HB1
 rw[hok]
 go_wp2_with fail
 refine (pf_use 1 _).mono ?_
 rintro e w3 ⟨x,rfl,hE,hb3⟩
 have HP3:=zh ((uh HP2).below hb3)
 have HB3:Hid (Below w.heap.size w w3):=(uh HB2).trans (hb3.mono (uh HB2).size)
 clear hb3 HP2 HB2
 dsimp only
 go_step
 refine wpList_store_mid rfl 31 _ _ rfl w.heap.size 0 pkz.cells.toArray rfl rfl ((uh HP3).there _) packet_size (Pkv.ones' _) ?_
 simp only[Act.put]
 have HPS:=zh ((uh HP3).stored pkz)
 have HBS:Hid (Below w.heap.size w (w3.setCells w.heap.size 0 pkz.cells)):=setCells_below (uh HB3) (Nat.le_refl _)
 have HES:Hid (ErP (w3.setCells w.heap.size 0 pkz.cells) (.iface 125 x) 1):=erp_cells (uh hE) (uh HP3).dup
 generalize w3.setCells w.heap.size 0 pkz.cells=wS at HPS HBS HES |-
 go_wp2
 refine bodyPost_ret (res_pk3 (B:=w.heap.size) (q:=pkz) rfl rfl (uh HPS)) rfl ?_
 exact dec_bad l w _ x 1 (uh HDN) (by decide) HES (uh HBS)
theorem dec_meas (bl off cap:Nat) (l:List Int) (w:World) (h:Byt w (.slice (some ⟨bl,off,none⟩) l.length cap) l) (hl:l≠[]) (hok:bok (l.getD 0 0)=true) (hm:(meas l).2.2≠0):Calls Tryz.prog 23 #[.slice (some ⟨bl,off,none⟩) l.length cap] w (DecPost l w):=by
 have HPN:=zh (pk_new w pkz)
 have HBN:Hid (Below w.heap.size w (w.alloc (.cells pkz.cells.toArray 31))):=bal _ _
 have hl1:1<=l.length:=List.length_pos_iff.2 hl
 obtain⟨hc1,hc2⟩:l.length<=cap/\cap<=maxLen:=by
  obtain⟨ao',cap',e,k1,k2⟩:=h.form
  simp only[Value.slice.injEq]at e
  obtain⟨_,_,rfl⟩:=e
  exact⟨k1,k2⟩
 unfold maxLen at hc2
 have hr0:=h.range 0
 have hbl:w.cell? ⟨bl,off,none⟩=some (.int .u8 (l.getD 0 0)):=by
  obtain⟨ao',cap',e',_,_,hcase⟩:=h
  simp only[Value.slice.injEq]at e'
  obtain⟨rfl,_,rfl⟩:=e'
  rcases hcase with h0 | ⟨b',off',e2,hc⟩
  ·exact absurd h0 hl
  ·simp only[Option.some.injEq,Addr.mk.injEq]at e2
   obtain⟨rfl,rfl,_⟩:=e2
   exact hc 0 (by omega)
 have hcl:=cell_lt hbl
 have HH:=zh h
 have HL:=zh hl
 generalize hn:l.length=n at hc1 hl1 HH
 have HN:=zh hn
 obtain⟨b,hb⟩:∃ b,l.getD 0 0=b:=⟨_,rfl⟩
 rw[hb]at hr0 hbl hok
 have HB0:=zh hb
 clear h hl hn hb
 have HDN:Hid (dnum l=(meas l).2.2):=by
  show _=_
  unfold dnum
  rw[if_neg (uh HL),uh HB0,if_neg (by rw[hok];decide),if_pos hm]
 generalize hmm:(meas l).2.2=m at hm HDN
 have HMM:=zh hmm
 clear hmm
 go_enter Tryz.func23,Tryz.ntmps23
 go_wp2_with fail
 refine (begin_any b hr0.1 hr0.2 _).mono ?_
 rintro e w1 ⟨rfl,hb1⟩
 have HP1:=zh ((uh HPN).below hb1)
 have HB1:Hid (Below w.heap.size w w1):=(uh HBN).trans (hb1.mono (uh HBN).size)
 clear hb1 HPN HBN hbl hcl
 dsimp only
 iterate 10 go_step
 refine wpList_store_mid rfl 31 _ _ rfl w.heap.size 0 (bpk b).cells.toArray rfl rfl ((uh HP1).there _) packet_size (Pkv.ones' _) ?_
 simp only[Act.put]
 have HP2:=zh ((uh HP1).stored (bpk b))
 have HB2:Hid (Below w.heap.size w (w1.setCells w.heap.size 0 (bpk b).cells)):=setCells_below (uh HB1) (Nat.le_refl _)
 generalize w1.setCells w.heap.size 0 (bpk b).cells=w2 at HP2 HB2 |-
 clear HP1 HB1
 rw[hok]
 have HMS:=zh (measure_any (.slice (some ⟨bl,off,none⟩) n cap) l w2 ((uh HH).below (uh HB2)) (uh HL))
 go_wp2_with fail
 refine (uh HMS).mono ?_
 rintro e w3 ⟨E,rfl,hE,hb3⟩
 have HP3:=zh ((uh HP2).below hb3)
 have HB3:Hid (Below w.heap.size w w3):=(uh HB2).trans (hb3.mono (uh HB2).size)
 clear hb3 HP2 HB2 HMS
 rw[uh HMM]at hE
 rcases uh hE with⟨h0,_⟩ | ⟨_,x,d,hx,hd,he⟩
 ·exact absurd h0 hm
 ·subst hx
  have HE:Hid (ErP w3 (.iface 125 x) m):=⟨x,d,rfl,hd,he⟩
  clear he hE
  go_upto_region 8 with fail
  iterate 7 go_step
  refine wpList_store_mid rfl 31 _ _ rfl w.heap.size 0 pkz.cells.toArray rfl rfl ((uh HP3).there _) packet_size (Pkv.ones' _) ?_
  simp only[Act.put]
  have HPS:=zh ((uh HP3).stored pkz)
  have HBS:Hid (Below w.heap.size w (w3.setCells w.heap.size 0 pkz.cells)):=setCells_below (uh HB3) (Nat.le_refl _)
  have HES:Hid (ErP (w3.setCells w.heap.size 0 pkz.cells) (.iface 125 x) m):=erp_cells (uh HE) (uh HP3).dup
  generalize w3.setCells w.heap.size 0 pkz.cells=wS at HPS HBS HES |-
  go_wp2
  refine bodyPost_ret (res_pk3 (B:=w.heap.size) (q:=pkz) rfl rfl (uh HPS)) rfl ?_
  exact dec_bad l w _ x m (uh HDN) hm HES (uh HBS)
theorem meas_le (l:List Int) (h:(meas l).2.2=0):1<=(meas l).1/\(meas l).1<=(meas l).2.1/\(meas l).2.1<=l.length/\(meas l).2.1<=65536:=by
 unfold meas at h |-
 split at h
 ·contradiction
 ·split at h
  ·simp at h
  ·split at h
   ·simp at h
   ·rename_i h1 h2 h3
    rw[if_neg h1,if_neg h2,if_neg h3]
    simp only
    omega
theorem stp_none {α:Type} {f:List Int->Option (α×List Int)} {l:List Int} {x:α} (h:Stp f (some l) x none):f l=none:=by
 unfold Stp at h
 simp only at h
 cases hq:f l with
 | none=>rfl
 | some r=>rw[hq]at h;cases h.2
theorem stp_some {α:Type} {f:List Int->Option (α×List Int)} {l l':List Int} {x:α} (h:Stp f (some l) x (some l')):f l=some (x,l'):=by
 unfold Stp at h
 simp only at h
 cases hq:f l with
 | none=>rw[hq]at h;cases h
 | some r =>
  rw[hq]at h
  obtain⟨rfl,e⟩:=h
  cases e
  rfl
theorem Pk.lt {w:World} {A:Nat} {q:Pkv} (h:Pk w A q):A < w.heap.size:=cell_lt (h 0 (by omega)).1
theorem dec_body (bl off cap:Nat) (l:List Int) (w:World) (h:Byt w (.slice (some ⟨bl,off,none⟩) l.length cap) l) (hl:l≠[]) (hok:bok (l.getD 0 0)=true) (hm:(meas l).2.2=0) (HPA:Hid (PkAt (l.getD 0 0))):Calls Tryz.prog 23 #[.slice (some ⟨bl,off,none⟩) l.length cap] w (DecPost l w):=by
 have HPN:=zh (pk_new w pkz)
 have HBN:Hid (Below w.heap.size w (w.alloc (.cells pkz.cells.toArray 31))):=bal _ _
 have hl1:1<=l.length:=List.length_pos_iff.2 hl
 obtain⟨hc1,hc2⟩:l.length<=cap/\cap<=maxLen:=by
  obtain⟨ao',cap',e,k1,k2⟩:=h.form
  simp only[Value.slice.injEq]at e
  obtain⟨_,_,rfl⟩:=e
  exact⟨k1,k2⟩
 unfold maxLen at hc2
 have hr0:=h.range 0
 have hbl:w.cell? ⟨bl,off,none⟩=some (.int .u8 (l.getD 0 0)):=by
  obtain⟨ao',cap',e',_,_,hcase⟩:=h
  simp only[Value.slice.injEq]at e'
  obtain⟨rfl,_,rfl⟩:=e'
  rcases hcase with h0 | ⟨b',off',e2,hc⟩
  ·exact absurd h0 hl
  ·simp only[Option.some.injEq,Addr.mk.injEq]at e2
   obtain⟨rfl,rfl,_⟩:=e2
   exact hc 0 (by omega)
 have hcl:=cell_lt hbl
 have HH:=zh h
 have HL:=zh hl
 generalize hn:l.length=n at hc1 hl1 HH
 have HN:=zh hn
 obtain⟨b,hb⟩:∃ b,l.getD 0 0=b:=⟨_,rfl⟩
 rw[hb]at hr0 hbl hok HPA
 have HB0:=zh hb
 clear h hl hn hb
 obtain⟨hd,hhd⟩:∃ hd,hd=(meas l).1:=⟨_,rfl⟩
 obtain⟨sz,hsz⟩:∃ sz,sz=(meas l).2.1:=⟨_,rfl⟩
 have hms:=meas_le l hm
 rw[<- hhd,<- hsz]at hms
 obtain⟨hh1,hh2,hh3,hh4⟩:=hms
 have HDB:Hid (dbody l=packet? (bpa b) ((l.drop hd).take (sz - hd))):=by
  show dbody l=_
  unfold dbody
  rw[<- hhd,<- hsz,uh HB0]
 have HD1:Hid (packet? (bpa b) ((l.drop hd).take (sz - hd))=none->dnum l=1):=fun e=>by
  unfold dnum
  rw[if_neg (uh HL),uh HB0,if_neg (by rw[hok];decide),if_neg (by rw[hm];decide),uh HDB,e]
  rfl
 have HD0:Hid (∀ {P':Pa} {l':List Int},packet? (bpa b) ((l.drop hd).take (sz - hd))=some (P',l')->dnum l=0):=fun e=>by
  unfold dnum
  rw[if_neg (uh HL),uh HB0,if_neg (by rw[hok];decide),if_neg (by rw[hm];decide),uh HDB,e]
  rfl
 have HSZ:Hid (sz=(meas l).2.1):=hsz
 rw[uh HN]at hh3
 go_enter Tryz.func23,Tryz.ntmps23
 go_wp2_with fail
 refine (begin_any b hr0.1 hr0.2 _).mono ?_
 rintro e w1 ⟨rfl,hb1⟩
 have HP1:=zh ((uh HPN).below hb1)
 have HB1:Hid (Below w.heap.size w w1):=(uh HBN).trans (hb1.mono (uh HBN).size)
 clear hb1 HPN HBN hbl hcl
 dsimp only
 iterate 10 go_step
 refine wpList_store_mid rfl 31 _ _ rfl w.heap.size 0 (bpk b).cells.toArray rfl rfl ((uh HP1).there _) packet_size (Pkv.ones' _) ?_
 simp only[Act.put]
 have HP2:=zh ((uh HP1).stored (bpk b))
 have HB2:Hid (Below w.heap.size w (w1.setCells w.heap.size 0 (bpk b).cells)):=setCells_below (uh HB1) (Nat.le_refl _)
 generalize w1.setCells w.heap.size 0 (bpk b).cells=w2 at HP2 HB2 |-
 clear HP1 HB1
 rw[hok]
 have HMS:=zh (measure_any (.slice (some ⟨bl,off,none⟩) n cap) l w2 ((uh HH).below (uh HB2)) (uh HL))
 go_wp2_with fail
 refine (uh HMS).mono ?_
 rintro e w3 ⟨E,rfl,hE,hb3⟩
 have HP3:=zh ((uh HP2).below hb3)
 have HB3:Hid (Below w.heap.size w w3):=(uh HB2).trans (hb3.mono (uh HB2).size)
 clear hb3 HP2 HB2 HMS
 obtain⟨q,hq⟩:∃ q,q=bpk b:=⟨_,rfl⟩
 have HPK:Hid (∀ w4:World,RS w3 w4 w3.heap.size (some ((l.drop hd).take (sz - hd)))->Pk w4 w3.heap.size q->Calls Tryz.prog 46 #[.pointer (some ⟨w3.heap.size,0,none⟩)] w4 (PackPost w3 w3.heap.size (bpa b) (some ((l.drop hd).take (sz - hd))) w4)):=fun w4 k1 k2=>by
  rw[hq]at k2
  exact (uh HPA) _ _ _ _ k1 k2 (fun l2 e=>by
   cases e
   rw[List.length_take]
   omega)
 clear HPA
 rw[<- hq]at HP3
 rw[<- hhd,<- hsz]
 clear hq hhd hsz
 have HMID:=zh (((uh HH).below (uh HB3)).mid hd (sz - hd) (by omega))
 by_cases hcap:cap=hd
 ·have e1:hd=cap:=hcap.symm
  clear hcap
  subst e1
  have e2:hd=n:=by omega
  have e3:sz=hd:=by omega
  subst e3
  have HBY:Hid (Byt w3 (.slice (some ⟨bl,off,none⟩) 0 0) ((l.drop sz).take (sz - sz))):=by
   show Byt _ _ _
   have k:=uh HMID
   rw[if_pos rfl,Nat.sub_self]at k
   rw[Nat.sub_self]
   exact k
  clear HMID
  subst e2
  obtain⟨hE0,rfl⟩:(meas l).2.2=0/\E=.nilIface:=by
   rcases uh hE with h | ⟨h,_⟩
   ·exact h
   ·exact absurd hm h
  clear hE hE0
  have hbd3:=bel_drew w3
  have HPd:=zh ((uh HP3).below hbd3)
  have HBd:Hid (Below w.heap.size w w3.drew):=(uh HB3).trans (hbd3.mono (uh HB3).size)
  clear hbd3
  go_wp2_with fail
  refine wp_region_noPanic ?_
  refine wp_region_held_drew (S:=(fun w'=>w'.rangeAt w.heap.size 0 q.cells)) (by kernel_rfl) (uh HPd).range (fun hHeld=>?_)
  refine wpAnyH_take (i:=0) (oi:={ dst:=some 35,op:=Op.load 31 (Operand.tmp 2),type:=31,pos := "packet.go:81",after:=#[],guard:=none }) (v:=q.val) rfl (by kernel_rfl) (by kernel_rfl) (by kernel_rfl) (fun _ _ _ h=>h) (yieldsIf_load_mid (by rfl) 31 _ rfl w.heap.size 0 rfl q.cells _ (fun _ h=>h) Tryz.underlying31 rfl packet_size) (by assumption) ?_
  simp only[Act.put,List.setIfInBounds_toArray,List.set_cons_zero,List.set_cons_succ]
  refine rtk 1 (h:=?_)
  refine rtk 2 (h:=?_)
  refine rtk 3 (h:=?_)
  refine rtk 4 (h:=?_)
  refine wpAnyH_take (i:=5) (oi:={ dst:=some 40,op:=Op.build 74 #[(0,Operand.tmp 35),(1,Operand.tmp 39)],type:=74,pos := "packet.go:81",after:=#[{ on:=0,ground:=Ground.data },{ on:=4,ground:=Ground.data }],guard:=none }) (v:=.agg (rdc q (some ⟨bl,off,none⟩) 0 0)) rfl (by kernel_rfl) (by kernel_rfl) (by kernel_rfl) (fun _ _ _ h=>h) (Or.inl ⟨by rfl,fun w _=>reader_build _ _ _ _ _ _ _ q (some ⟨bl,off,none⟩) 0 0 rfl rfl w⟩) (by assumption) ?_
  simp only[Act.put,List.setIfInBounds_toArray,List.set_cons_zero,List.set_cons_succ]
  refine rcl 6 (h:=fun K hK=>?_)
  refine step_value rfl (reader_alloc _ _ _ _ _ _) ?_
  refine hK.out _ _ ((uh HPd).below (bal _ _)).range (fun hHeld=>?_)
  clear hK K
  simp only[Act.put,List.setIfInBounds_toArray,List.set_cons_zero,List.set_cons_succ]
  refine rcl 7 (h:=fun K hK=>?_)
  refine step_skip rfl (reader_store _ _ _ _ _ _ _ q (some ⟨bl,off,none⟩) 0 0 w3.drew rfl rfl) ?_
  refine hK.out _ _ ((uh HPd).below (bal _ _)).range (fun hHeld=>?_)
  clear hK K
  simp only[Act.put]
  refine wpAnyH_done (by kernel_rfl) ?_ _
  refine NoPanic.normal ?_
  have hR:w3.drew.heap.size=w3.heap.size:=rfl
  have HPR:=zh (rdc_pk w3.drew q (some ⟨bl,off,none⟩) 0 0)
  have HRS:=zh (rdc_rs w3 w3.drew q (some ⟨bl,off,none⟩) 0 0 ((l.drop sz).take (sz - sz)) (uh HBY) (bel_drew w3))
  have HPA:Hid (Pk (w3.drew.alloc (.cells (rdc q (some ⟨bl,off,none⟩) 0 0) 74)) w.heap.size q):=(uh HPd).below (bal _ _)
  have HBA:Hid (Below w.heap.size w (w3.drew.alloc (.cells (rdc q (some ⟨bl,off,none⟩) 0 0) 74))):=(uh HBd).trans ((bal _ _).mono (uh HBd).size)
  have hAR:w.heap.size < w3.heap.size:=(uh HP3).lt
  have hWs:w3.heap.size < (w3.drew.alloc (.cells (rdc q (some ⟨bl,off,none⟩) 0 0) 74)).heap.size:=by simp
  rw[hR]at HPR HRS
  generalize w3.drew.alloc (.cells (rdc q (some ⟨bl,off,none⟩) 0 0) 74)=w4 at HPR HRS HPA HBA hWs |-
  clear HPd HBd hHeld hR HP3
  go_wp2_with fail
  refine ((uh HPK) _ (uh HRS) (uh HPR)).mono ?_
  rintro e w5 ⟨rfl,p',P',st',hp5,hM5,hs5,h5,hx5⟩
  have HP5:=zh hp5
  have HS5:=zh h5
  have HST5:=zh hs5
  have HA5:=zh ((uh HPA).far hx5 (Nat.ne_of_lt hAR))
  have HB5:Hid (Below w.heap.size w w5):=(uh HBA).trans (hx5.below (Nat.le_of_lt hAR) (uh HBA).size)
  have hR5:w3.heap.size < w5.heap.size:=Nat.lt_of_lt_of_le hWs hx5.size
  have HM5:Hid (Mean w5 w3.heap.size.succ p' P'):=(uh hM5).base hWs
  clear hp5 h5 hs5 hx5 hM5 HPA HBA HPR HRS HPK
  cases st' with
  | none =>
   obtain⟨t,x,d,k,c20,hd2,he⟩:=(uh HS5).bad
   have HE5:=zh he
   clear he
   have HDN:Hid (dnum l=1):=(uh HD1) (stp_none (uh HST5))
   go_wp2_with fail
   refine (pbroken d hd2 _ k _ (uh HE5)).mono ?_
   rintro e w6 ⟨y,rfl,hE,hb6⟩
   have HP6:=zh ((uh HA5).below hb6)
   have HB6:Hid (Below w.heap.size w w6):=(uh HB5).trans (hb6.mono (uh HB5).size)
   clear hb6
   dsimp only
   go_step
   refine wpList_store_mid rfl 31 _ _ rfl w.heap.size 0 pkz.cells.toArray rfl rfl ((uh HP6).there _) packet_size (Pkv.ones' _) ?_
   simp only[Act.put]
   have HPS:=zh ((uh HP6).stored pkz)
   have HBS:Hid (Below w.heap.size w (w6.setCells w.heap.size 0 pkz.cells)):=setCells_below (uh HB6) (Nat.le_refl _)
   have HES:Hid (ErP (w6.setCells w.heap.size 0 pkz.cells) (.iface 125 y) 1):=erp_cells (uh hE) (uh HP6).dup
   generalize w6.setCells w.heap.size 0 pkz.cells=wS at HPS HBS HES |-
   go_wp2
   refine bodyPost_ret (res_pk3 (B:=w.heap.size) (q:=pkz) rfl rfl (uh HPS)) rfl ?_
   exact dec_bad l w _ y 1 (uh HDN) (by decide) HES (uh HBS)
  | some l' =>
   have hds:=stp_some (uh HST5)
   have HDN:Hid (dnum l=0):=(uh HD0) hds
   have HDS:=zh hds
   clear hds
   obtain⟨_,_,c20⟩ | ⟨hno,_⟩:=(uh HS5).err
   ·go_upto_region 13 with fail
    iterate 4 go_step
    refine wpList_load_mid rfl 31 _ rfl w3.heap.size 0 rfl p'.cells _ (uh HP5).range Tryz.underlying31 rfl packet_size ?_
    simp only[Act.put,List.setIfInBounds_toArray,List.set_cons_zero,List.set_cons_succ]
    iterate 3 go_step
    refine wpList_store_mid rfl 31 _ _ rfl w.heap.size 0 p'.cells.toArray rfl rfl ((uh HA5).there _) packet_size (Pkv.ones' _) ?_
    simp only[Act.put]
    have HPS:=zh ((uh HA5).stored p')
    have HBS:Hid (Below w.heap.size w (w5.setCells w.heap.size 0 p'.cells)):=setCells_below (uh HB5) (Nat.le_refl _)
    have HMS:Hid (Mean (w5.setCells w.heap.size 0 p'.cells) w.heap.size p' P'):=((uh HM5).cells (Nat.lt_succ_of_lt hAR)).base (Nat.le_succ_of_le (Nat.le_of_lt hAR))
    generalize w5.setCells w.heap.size 0 p'.cells=w6 at HPS HBS HMS |-
    clear c20
    go_wp2
    refine bodyPost_ret (res_pk3 (B:=w.heap.size) (q:=p') rfl rfl (uh HPS)) rfl ?_
    exact⟨p',sz,.nilIface,rfl,.inr ⟨uh HDN,(uh HSZ),rfl,P',l',(uh HDB).trans (uh HDS),HMS⟩,uh HBS⟩
   ·cases hno
 ·have HBY:Hid (Byt w3 (.slice (some ⟨bl,off+hd,none⟩) (sz - hd) (cap - hd)) ((l.drop hd).take (sz - hd))):=by
   show Byt _ _ _
   have k:=uh HMID
   rw[if_neg hcap]at k
   exact k
  clear HMID
  obtain⟨hE0,rfl⟩:(meas l).2.2=0/\E=.nilIface:=by
   rcases uh hE with h | ⟨h,_⟩
   ·exact h
   ·exact absurd hm h
  clear hE hE0
  have hbd3:=bel_drew w3
  have HPd:=zh ((uh HP3).below hbd3)
  have HBd:Hid (Below w.heap.size w w3.drew):=(uh HB3).trans (hbd3.mono (uh HB3).size)
  clear hbd3
  go_wp2_with fail
  refine wp_region_noPanic ?_
  refine wp_region_held_drew (S:=(fun w'=>w'.rangeAt w.heap.size 0 q.cells)) (by kernel_rfl) (uh HPd).range (fun hHeld=>?_)
  refine wpAnyH_take (i:=0) (oi:={ dst:=some 35,op:=Op.load 31 (Operand.tmp 2),type:=31,pos := "packet.go:81",after:=#[],guard:=none }) (v:=q.val) rfl (by kernel_rfl) (by kernel_rfl) (by kernel_rfl) (fun _ _ _ h=>h) (yieldsIf_load_mid (by rfl) 31 _ rfl w.heap.size 0 rfl q.cells _ (fun _ h=>h) Tryz.underlying31 rfl packet_size) (by assumption) ?_
  simp only[Act.put,List.setIfInBounds_toArray,List.set_cons_zero,List.set_cons_succ]
  refine rtk 1 (h:=?_)
  refine rtk 2 (h:=?_)
  refine rtk 3 (h:=?_)
  refine rtk 4 (h:=?_)
  refine wpAnyH_take (i:=5) (oi:={ dst:=some 40,op:=Op.build 74 #[(0,Operand.tmp 35),(1,Operand.tmp 39)],type:=74,pos := "packet.go:81",after:=#[{ on:=0,ground:=Ground.data },{ on:=4,ground:=Ground.data }],guard:=none }) (v:=.agg (rdc q (some ⟨bl,off+hd,none⟩) (sz - hd) (cap - hd))) rfl (by kernel_rfl) (by kernel_rfl) (by kernel_rfl) (fun _ _ _ h=>h) (Or.inl ⟨by rfl,fun w _=>reader_build _ _ _ _ _ _ _ q (some ⟨bl,off+hd,none⟩) (sz - hd) (cap - hd) rfl rfl w⟩) (by assumption) ?_
  simp only[Act.put,List.setIfInBounds_toArray,List.set_cons_zero,List.set_cons_succ]
  refine rcl 6 (h:=fun K hK=>?_)
  refine step_value rfl (reader_alloc _ _ _ _ _ _) ?_
  refine hK.out _ _ ((uh HPd).below (bal _ _)).range (fun hHeld=>?_)
  clear hK K
  simp only[Act.put,List.setIfInBounds_toArray,List.set_cons_zero,List.set_cons_succ]
  refine rcl 7 (h:=fun K hK=>?_)
  refine step_skip rfl (reader_store _ _ _ _ _ _ _ q (some ⟨bl,off+hd,none⟩) (sz - hd) (cap - hd) w3.drew rfl rfl) ?_
  refine hK.out _ _ ((uh HPd).below (bal _ _)).range (fun hHeld=>?_)
  clear hK K
  simp only[Act.put]
  refine wpAnyH_done (by kernel_rfl) ?_ _
  refine NoPanic.normal ?_
  have hR:w3.drew.heap.size=w3.heap.size:=rfl
  have HPR:=zh (rdc_pk w3.drew q (some ⟨bl,off+hd,none⟩) (sz - hd) (cap - hd))
  have HRS:=zh (rdc_rs w3 w3.drew q (some ⟨bl,off+hd,none⟩) (sz - hd) (cap - hd) ((l.drop hd).take (sz - hd)) (uh HBY) (bel_drew w3))
  have HPA:Hid (Pk (w3.drew.alloc (.cells (rdc q (some ⟨bl,off+hd,none⟩) (sz - hd) (cap - hd)) 74)) w.heap.size q):=(uh HPd).below (bal _ _)
  have HBA:Hid (Below w.heap.size w (w3.drew.alloc (.cells (rdc q (some ⟨bl,off+hd,none⟩) (sz - hd) (cap - hd)) 74))):=(uh HBd).trans ((bal _ _).mono (uh HBd).size)
  have hAR:w.heap.size < w3.heap.size:=(uh HP3).lt
  have hWs:w3.heap.size < (w3.drew.alloc (.cells (rdc q (some ⟨bl,off+hd,none⟩) (sz - hd) (cap - hd)) 74)).heap.size:=by simp
  rw[hR]at HPR HRS
  generalize w3.drew.alloc (.cells (rdc q (some ⟨bl,off+hd,none⟩) (sz - hd) (cap - hd)) 74)=w4 at HPR HRS HPA HBA hWs |-
  clear HPd HBd hHeld hR HP3
  go_wp2_with fail
  refine ((uh HPK) _ (uh HRS) (uh HPR)).mono ?_
  rintro e w5 ⟨rfl,p',P',st',hp5,hM5,hs5,h5,hx5⟩
  have HP5:=zh hp5
  have HS5:=zh h5
  have HST5:=zh hs5
  have HA5:=zh ((uh HPA).far hx5 (Nat.ne_of_lt hAR))
  have HB5:Hid (Below w.heap.size w w5):=(uh HBA).trans (hx5.below (Nat.le_of_lt hAR) (uh HBA).size)
  have hR5:w3.heap.size < w5.heap.size:=Nat.lt_of_lt_of_le hWs hx5.size
  have HM5:Hid (Mean w5 w3.heap.size.succ p' P'):=(uh hM5).base hWs
  clear hp5 h5 hs5 hx5 hM5 HPA HBA HPR HRS HPK
  cases st' with
  | none =>
   obtain⟨t,x,d,k,c20,hd2,he⟩:=(uh HS5).bad
   have HE5:=zh he
   clear he
   have HDN:Hid (dnum l=1):=(uh HD1) (stp_none (uh HST5))
   go_wp2_with fail
   refine (pbroken d hd2 _ k _ (uh HE5)).mono ?_
   rintro e w6 ⟨y,rfl,hE,hb6⟩
   have HP6:=zh ((uh HA5).below hb6)
   have HB6:Hid (Below w.heap.size w w6):=(uh HB5).trans (hb6.mono (uh HB5).size)
   clear hb6
   dsimp only
   go_step
   refine wpList_store_mid rfl 31 _ _ rfl w.heap.size 0 pkz.cells.toArray rfl rfl ((uh HP6).there _) packet_size (Pkv.ones' _) ?_
   simp only[Act.put]
   have HPS:=zh ((uh HP6).stored pkz)
   have HBS:Hid (Below w.heap.size w (w6.setCells w.heap.size 0 pkz.cells)):=setCells_below (uh HB6) (Nat.le_refl _)
   have HES:Hid (ErP (w6.setCells w.heap.size 0 pkz.cells) (.iface 125 y) 1):=erp_cells (uh hE) (uh HP6).dup
   generalize w6.setCells w.heap.size 0 pkz.cells=wS at HPS HBS HES |-
   go_wp2
   refine bodyPost_ret (res_pk3 (B:=w.heap.size) (q:=pkz) rfl rfl (uh HPS)) rfl ?_
   exact dec_bad l w _ y 1 (uh HDN) (by decide) HES (uh HBS)
  | some l' =>
   have hds:=stp_some (uh HST5)
   have HDN:Hid (dnum l=0):=(uh HD0) hds
   have HDS:=zh hds
   clear hds
   obtain⟨_,_,c20⟩ | ⟨hno,_⟩:=(uh HS5).err
   ·go_upto_region 13 with fail
    iterate 4 go_step
    refine wpList_load_mid rfl 31 _ rfl w3.heap.size 0 rfl p'.cells _ (uh HP5).range Tryz.underlying31 rfl packet_size ?_
    simp only[Act.put,List.setIfInBounds_toArray,List.set_cons_zero,List.set_cons_succ]
    iterate 3 go_step
    refine wpList_store_mid rfl 31 _ _ rfl w.heap.size 0 p'.cells.toArray rfl rfl ((uh HA5).there _) packet_size (Pkv.ones' _) ?_
    simp only[Act.put]
    have HPS:=zh ((uh HA5).stored p')
    have HBS:Hid (Below w.heap.size w (w5.setCells w.heap.size 0 p'.cells)):=setCells_below (uh HB5) (Nat.le_refl _)
    have HMS:Hid (Mean (w5.setCells w.heap.size 0 p'.cells) w.heap.size p' P'):=((uh HM5).cells (Nat.lt_succ_of_lt hAR)).base (Nat.le_succ_of_le (Nat.le_of_lt hAR))
    generalize w5.setCells w.heap.size 0 p'.cells=w6 at HPS HBS HMS |-
    clear c20
    go_wp2
    refine bodyPost_ret (res_pk3 (B:=w.heap.size) (q:=p') rfl rfl (uh HPS)) rfl ?_
    exact⟨p',sz,.nilIface,rfl,.inr ⟨uh HDN,(uh HSZ),rfl,P',l',(uh HDB).trans (uh HDS),HMS⟩,uh HBS⟩
   ·cases hno
end Go.Proofs.YtdkmmmjjdlnnoaaGreatDoor.K
