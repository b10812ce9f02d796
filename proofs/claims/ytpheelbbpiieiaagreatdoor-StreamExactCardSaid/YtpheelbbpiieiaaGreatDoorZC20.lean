/- Proved here: helpers, one text behind the other. -/
import Derived.Test.YtpheelbbpiieiaaGreatDoorZC5
import Derived.Test.YtpheelbbpiieiaaGreatDoorZC19
import Derived.Laws.AppendOwn
import Derived.Deep.Cut
import Derived.Deep.CutBlock
import Derived.Test.YtpheelbbpiieiaaGreatDoorZC10
set_option maxHeartbeats 20000000
namespace Go.Proofs.YtpheelbbpiieiaaGreatDoor.K
open Go.RowKit
set_option maxRecDepth 100000
structure Wv where
 topic:ByteArray
 payload:ByteArray
 qos:Int
 retain:Bool
 props:Sl
def Wv.cells (u:Wv):List Value:=[.string u.topic,.string u.payload,.int .i64 u.qos,.bool u.retain,u.props.val]
def wcs (ws:List Wv):List Value:=ws.flatMap Wv.cells
def Rw (w:World) (t:Sl) (s:Nat) (vs:List Value):Prop:=vs.length=t.n * s/\(t.n<=t.cap/\t.cap<=maxLen)/\(t.n=0\/∃ b off,t.ao=some ⟨b,off,none⟩/\∀ j,j < vs.length->w.cell? ⟨b,off+j,none⟩=vs[j]?)
theorem Rw.below {w w':World} {t:Sl} {s:Nat} {vs:List Value} (h:Rw w t s vs) (hb:Below w.heap.size w w'):Rw w' t s vs:=by
 obtain⟨h1,h2,h3⟩:=h
 refine⟨h1,h2,?_⟩
 rcases h3 with h3 | ⟨b,off,e,hc⟩
 ·exact .inl h3
 ·refine .inr ⟨b,off,e,fun j hj=>?_⟩
  have:=hc j hj
  rw[List.getElem?_eq_getElem hj]at this
  rw[hb.cell (p:=⟨b,off+j,none⟩) (cell_lt this),List.getElem?_eq_getElem hj]
  exact this
theorem wcs_length (ws:List Wv):(wcs ws).length=ws.length * 5:=by
 induction ws with
 | nil=>rfl
 | cons u us ih=>unfold wcs at *;simp only[List.flatMap_cons,List.length_append,ih,List.length_cons,Wv.cells,List.length_nil];omega
theorem wcs_get (ws:List Wv):∀ (i:Nat) (u:Wv),ws[i]?=some u->∀ j,j < 5->(wcs ws)[i * 5+j]?=u.cells[j]?:=by
 induction ws with
 | nil=>intro i u h;simp at h
 | cons v us ih =>
  intro i u h j hj
  cases i with
  | zero =>
   simp at h
   subst h
   unfold wcs
   rw[List.flatMap_cons,Nat.zero_mul,Nat.zero_add,List.getElem?_append_left (by simp[Wv.cells];omega)]
  | succ i =>
   simp at h
   have:=ih i u h j hj
   unfold wcs at *
   rw[List.flatMap_cons,List.getElem?_append_right (by simp[Wv.cells];omega),<- this]
   congr 1
   simp[Wv.cells]
   omega
theorem Rw.will {w:World} {t:Sl} {ws:List Wv} (h:Rw w t 5 (wcs ws)) (i:Nat) (u:Wv) (hu:ws[i]?=some u):∃ b off,t.ao=some ⟨b,off,none⟩/\w.cell? ⟨b,off+i * 5,none⟩=some (.string u.topic)/\w.cell? ⟨b,off+i * 5+1,none⟩=some (.string u.payload)/\w.cell? ⟨b,off+i * 5+2,none⟩=some (.int .i64 u.qos)/\w.cell? ⟨b,off+i * 5+3,none⟩=some (.bool u.retain)/\w.cell? ⟨b,off+i * 5+4,none⟩=some u.props.val:=by
 obtain⟨h1,h2,h3⟩:=h
 have hi:i < ws.length:=(List.getElem?_eq_some_iff.1 hu).1
 rw[wcs_length]at h1
 rcases h3 with h3 | ⟨b,off,e,hc⟩
 ·omega
 ·refine⟨b,off,e,?_⟩
  have k:∀ j,j < 5->w.cell? ⟨b,off+(i * 5+j),none⟩=u.cells[j]?:=fun j hj=>(hc (i * 5+j) (by rw[wcs_length];omega)).trans (wcs_get ws i u hu j hj)
  exact⟨k 0 (by omega),(by have:=k 1 (by omega);rw[<- Nat.add_assoc]at this;exact this),(by have:=k 2 (by omega);rw[<- Nat.add_assoc]at this;exact this),(by have:=k 3 (by omega);rw[<- Nat.add_assoc]at this;exact this),(by have:=k 4 (by omega);rw[<- Nat.add_assoc]at this;exact this)⟩
def cstep (f:Int) (u:Wv):Int:=bits .or .i64 f (bits .or .i64 (bits .or .i64 4 (fv u.retain 32)) (IntKind.i64.wrap (u.qos * 8)))
def cfl0 (nu np:Nat) (clean:Bool):Int:=bits .or .i64 (bits .or .i64 (fv (decide (0 < nu)) 128) (fv (decide (0 < np)) 64)) (fv clean 2)
def cfl (nu np:Nat) (clean:Bool) (ws:List Wv):Int:=ws.foldl cstep (cfl0 nu np clean)
def cok0 (nw nu np:Nat):Bool:=decide (nw<=1) && decide (nu<=1) && decide (np<=1)
def cok (nu np:Nat) (ws:List Wv):Bool:=cok0 ws.length nu np && ws.all fun u=>mq u.qos
theorem connectFlags_any (p:Pkv) (ws:List Wv) (w:World) (h:Rw w p.wills 5 (wcs ws)) (hu:p.user.n<=maxLen) (hp:p.pass.n<=maxLen):Calls Tryz.prog 115 #[p.val] w fun e w'=>e=.returned (.tuple #[.int .i64 (cfl p.user.n p.pass.n p.clean ws),.bool (cok p.user.n p.pass.n ws)])/\Below w.heap.size w w':=by
 obtain⟨kind,dup,qos,retain,topic,id,payload,⟨a1,n1,c1⟩,client,clean,keep,⟨a2,n2,c2⟩,⟨a3,n3,c3⟩,⟨a4,n4,c4⟩,code,session,⟨a5,n5,c5⟩,⟨a6,n6,c6⟩,⟨a7,n7,c7⟩⟩:=p
 simp only at h hu hp
 dsimp only[Pkv.val,Sl.val]
 have hn:ws.length=n2:=by have:=h.1;rw[wcs_length]at this;simp only at this;omega
 have hcap:=h.2.1
 simp only at hcap
 unfold maxLen at hu hp hcap
 have HR:=zh h
 clear h
 by_cases l1:n2<=1
 ·by_cases l2:n3<=1
  ·go_enter Tryz.func115,Tryz.ntmps115
   go_wp2_with fail
   refine wp_region_noPanic ?_
   refine wp_region_held_drew (S:=(fun w'=>w'.cell? ⟨w.heap.size,12,none⟩=some (.slice a3 n3 c3)/\w'.cell? ⟨w.heap.size,13,none⟩=some (.slice a4 n4 c4)/\w'.cell? ⟨w.heap.size,9,none⟩=some (.bool clean))) (by kernel_rfl) (by simp) (fun hHeld=>?_)
   refine rtk 0 (h:=?_)
   refine rtk 1 (h:=?_)
   refine rtk 2 (h:=?_)
   refine rtk 3 (h:=?_)
   refine rtk 5 (h:=?_)
   refine rtk 6 (h:=?_)
   refine rtk 7 (h:=?_)
   refine rtk 8 (h:=?_)
   refine rtk 11 (h:=?_)
   refine rtk 12 (h:=?_)
   refine rcl 4 (h:=fun K hK=>?_)
   go_simp
   refine (flag_is _ _ _).mono ?_
   rintro e w2 ⟨rfl,hw2⟩
   obtain rfl:=hw2.symm
   clear hw2
   refine hK.out _ _ (by simp) (fun hHeld=>?_)
   clear hK K
   refine rcl 9 (h:=fun K hK=>?_)
   go_simp
   refine (flag_is _ _ _).mono ?_
   rintro e w2 ⟨rfl,hw2⟩
   obtain rfl:=hw2.symm
   clear hw2
   refine hK.out _ _ (by simp) (fun hHeld=>?_)
   clear hK K
   refine rtk 10 (h:=?_)
   refine rcl 13 (h:=fun K hK=>?_)
   go_simp
   refine (flag_is _ _ _).mono ?_
   rintro e w2 ⟨rfl,hw2⟩
   obtain rfl:=hw2.symm
   clear hw2
   refine hK.out _ _ (by simp) (fun hHeld=>?_)
   clear hK K
   refine rtk 14 (h:=?_)
   refine rcl 15 (h:=fun K hK=>?_)
   go_simp
   refine hK.out _ _ (by simp) (fun hHeld=>?_)
   clear hK K
   refine wpAnyH_done (by kernel_rfl) ?_ _
   refine NoPanic.normal ?_
   go_wp2
   go_loopw [2,3,40] (fun f0 o0 i0 wr=>∃ (k:Nat) (bb:Bool) (F:Int),k<=n2/\i0=.int .i64 k/\f0=.int .i64 F/\o0=.bool bb/\Hid (F=(ws.take k).foldl cstep (cfl0 n3 n4 clean))/\Hid (bb=(cok0 n2 n3 n4 && (ws.take k).all fun u=>mq u.qos))/\Below w.heap.size w wr) (fun _ _ i0 _=>n2 - (intOf i0).toNat)
   case atStart=>exact⟨0,_,_,Nat.zero_le _,rfl,rfl,rfl,rfl,by show _=_;simp[cok0,l1,l2];omega,by go_grown⟩
   case round =>
    obtain⟨k,bb,F,hk,rfl,rfl,rfl,HF,HO,hbel⟩:=hrel
    by_cases hkn:k=n2
    ·subst hkn
     have e1:ws.take k=ws:=List.take_of_length_le (by omega)
     have HB:=zh hbel
     clear hbel
     go_wp2
     go_returns
     rw[e1]at HF HO
     exact⟨by rw[uh HF,uh HO,<- hn];rfl,uh HB⟩
    ·have hlt:k < ws.length:=by omega
     obtain⟨u,hu⟩:∃ u,ws[k]?=some u:=⟨_,List.getElem?_eq_getElem hlt⟩
     have e1:ws.take (k+1)=ws.take k++[u]:=by rw[List.take_add_one,hu];rfl
     obtain⟨b,off,ha,t0,t1,t2,t3,t4⟩:=((uh HR).below (hbel)).will k u hu
     simp only at ha
     subst ha
     have hF:Hid (cstep F u=(ws.take (k+1)).foldl cstep (cfl0 n3 n4 clean)):=by show _=_;rw[e1,List.foldl_append,uh HF];rfl
     have hO:(cok0 n2 n3 n4 && (ws.take (k+1)).all fun u=>mq u.qos)=(bb && mq u.qos):=by rw[e1,List.all_append,uh HO];simp[Bool.and_assoc]
     have HO2:=zh hO
     clear hO
     have HB2:Hid (Below w.heap.size w (wr.alloc (.cells #[.string u.topic,.string u.payload,.int .i64 u.qos,.bool u.retain,u.props.val] 112)).drew):=(hbel.alloc hbel.size _).drew
     cases bb
     ·go_wp2_with fail
      refine wp_region_noPanic ?_
      refine wp_region_held_drew (S:=(fun w'=>w'.cell? ⟨wr.heap.size,3,none⟩=some (.bool u.retain)/\w'.cell? ⟨wr.heap.size,2,none⟩=some (.int .i64 u.qos))) (by kernel_rfl) (by simp) (fun hHeld=>?_)
      refine rtk 0 (h:=?_)
      refine rtk 1 (h:=?_)
      refine rtk 2 (h:=?_)
      refine rtk 5 (h:=?_)
      refine rtk 6 (h:=?_)
      refine rtk 7 (h:=?_)
      refine rcl 3 (h:=fun K hK=>?_)
      go_simp
      refine (flag_is _ _ _).mono ?_
      rintro e w2 ⟨rfl,hw2⟩
      obtain rfl:=hw2.symm
      clear hw2
      refine hK.out _ _ (by simp) (fun hHeld=>?_)
      clear hK K
      refine rtk 4 (h:=?_)
      refine rtk 8 (h:=?_)
      refine rtk 9 (h:=?_)
      refine rcl 10 (h:=fun K hK=>?_)
      go_simp
      refine hK.out _ _ (by simp) (fun hHeld=>?_)
      clear hK K
      refine wpAnyH_done (by kernel_rfl) ?_ _
      refine NoPanic.normal ?_
      go_wp2
      go_roundw
      case rel=>exact⟨k+1,false,_,by omega,by go_num,rfl,rfl,hF,by show _=_;rw[uh HO2];rfl,uh HB2⟩
      case measure=>simp[intOf];omega
     ·go_wp2_with fail
      refine (mayQoS_is u.qos _ rfl _).mono ?_
      rintro e w1 ⟨rfl,hw1⟩
      obtain rfl:=hw1.symm
      clear hw1
      go_wp2_with fail
      refine wp_region_noPanic ?_
      refine wp_region_held_drew (S:=(fun w'=>w'.cell? ⟨wr.heap.size,3,none⟩=some (.bool u.retain)/\w'.cell? ⟨wr.heap.size,2,none⟩=some (.int .i64 u.qos))) (by kernel_rfl) (by simp) (fun hHeld=>?_)
      refine rtk 0 (h:=?_)
      refine rtk 1 (h:=?_)
      refine rtk 2 (h:=?_)
      refine rtk 5 (h:=?_)
      refine rtk 6 (h:=?_)
      refine rtk 7 (h:=?_)
      refine rcl 3 (h:=fun K hK=>?_)
      go_simp
      refine (flag_is _ _ _).mono ?_
      rintro e w2 ⟨rfl,hw2⟩
      obtain rfl:=hw2.symm
      clear hw2
      refine hK.out _ _ (by simp) (fun hHeld=>?_)
      clear hK K
      refine rtk 4 (h:=?_)
      refine rtk 8 (h:=?_)
      refine rtk 9 (h:=?_)
      refine rcl 10 (h:=fun K hK=>?_)
      go_simp
      refine hK.out _ _ (by simp) (fun hHeld=>?_)
      clear hK K
      refine wpAnyH_done (by kernel_rfl) ?_ _
      refine NoPanic.normal ?_
      go_wp2
      go_roundw
      case rel=>exact⟨k+1,mq u.qos,_,by omega,by go_num,rfl,rfl,hF,by show _=_;rw[uh HO2];rfl,uh HB2⟩
      case measure=>simp[intOf];omega
  ·go_enter Tryz.func115,Tryz.ntmps115
   go_wp2_with fail
   refine wp_region_noPanic ?_
   refine wp_region_held_drew (S:=(fun w'=>w'.cell? ⟨w.heap.size,12,none⟩=some (.slice a3 n3 c3)/\w'.cell? ⟨w.heap.size,13,none⟩=some (.slice a4 n4 c4)/\w'.cell? ⟨w.heap.size,9,none⟩=some (.bool clean))) (by kernel_rfl) (by simp) (fun hHeld=>?_)
   refine rtk 0 (h:=?_)
   refine rtk 1 (h:=?_)
   refine rtk 2 (h:=?_)
   refine rtk 3 (h:=?_)
   refine rtk 5 (h:=?_)
   refine rtk 6 (h:=?_)
   refine rtk 7 (h:=?_)
   refine rtk 8 (h:=?_)
   refine rtk 11 (h:=?_)
   refine rtk 12 (h:=?_)
   refine rcl 4 (h:=fun K hK=>?_)
   go_simp
   refine (flag_is _ _ _).mono ?_
   rintro e w2 ⟨rfl,hw2⟩
   obtain rfl:=hw2.symm
   clear hw2
   refine hK.out _ _ (by simp) (fun hHeld=>?_)
   clear hK K
   refine rcl 9 (h:=fun K hK=>?_)
   go_simp
   refine (flag_is _ _ _).mono ?_
   rintro e w2 ⟨rfl,hw2⟩
   obtain rfl:=hw2.symm
   clear hw2
   refine hK.out _ _ (by simp) (fun hHeld=>?_)
   clear hK K
   refine rtk 10 (h:=?_)
   refine rcl 13 (h:=fun K hK=>?_)
   go_simp
   refine (flag_is _ _ _).mono ?_
   rintro e w2 ⟨rfl,hw2⟩
   obtain rfl:=hw2.symm
   clear hw2
   refine hK.out _ _ (by simp) (fun hHeld=>?_)
   clear hK K
   refine rtk 14 (h:=?_)
   refine rcl 15 (h:=fun K hK=>?_)
   go_simp
   refine hK.out _ _ (by simp) (fun hHeld=>?_)
   clear hK K
   refine wpAnyH_done (by kernel_rfl) ?_ _
   refine NoPanic.normal ?_
   go_wp2
   go_loopw [2,3,40] (fun f0 o0 i0 wr=>∃ (k:Nat) (bb:Bool) (F:Int),k<=n2/\i0=.int .i64 k/\f0=.int .i64 F/\o0=.bool bb/\Hid (F=(ws.take k).foldl cstep (cfl0 n3 n4 clean))/\Hid (bb=(cok0 n2 n3 n4 && (ws.take k).all fun u=>mq u.qos))/\Below w.heap.size w wr) (fun _ _ i0 _=>n2 - (intOf i0).toNat)
   case atStart=>exact⟨0,_,_,Nat.zero_le _,rfl,rfl,rfl,rfl,by show _=_;simp[cok0,l2],by go_grown⟩
   case round =>
    obtain⟨k,bb,F,hk,rfl,rfl,rfl,HF,HO,hbel⟩:=hrel
    by_cases hkn:k=n2
    ·subst hkn
     have e1:ws.take k=ws:=List.take_of_length_le (by omega)
     have HB:=zh hbel
     clear hbel
     go_wp2
     go_returns
     rw[e1]at HF HO
     exact⟨by rw[uh HF,uh HO,<- hn];rfl,uh HB⟩
    ·have hlt:k < ws.length:=by omega
     obtain⟨u,hu⟩:∃ u,ws[k]?=some u:=⟨_,List.getElem?_eq_getElem hlt⟩
     have e1:ws.take (k+1)=ws.take k++[u]:=by rw[List.take_add_one,hu];rfl
     obtain⟨b,off,ha,t0,t1,t2,t3,t4⟩:=((uh HR).below (hbel)).will k u hu
     simp only at ha
     subst ha
     have hF:Hid (cstep F u=(ws.take (k+1)).foldl cstep (cfl0 n3 n4 clean)):=by show _=_;rw[e1,List.foldl_append,uh HF];rfl
     have hO:(cok0 n2 n3 n4 && (ws.take (k+1)).all fun u=>mq u.qos)=(bb && mq u.qos):=by rw[e1,List.all_append,uh HO];simp[Bool.and_assoc]
     have HO2:=zh hO
     clear hO
     have HB2:Hid (Below w.heap.size w (wr.alloc (.cells #[.string u.topic,.string u.payload,.int .i64 u.qos,.bool u.retain,u.props.val] 112)).drew):=(hbel.alloc hbel.size _).drew
     cases bb
     ·go_wp2_with fail
      refine wp_region_noPanic ?_
      refine wp_region_held_drew (S:=(fun w'=>w'.cell? ⟨wr.heap.size,3,none⟩=some (.bool u.retain)/\w'.cell? ⟨wr.heap.size,2,none⟩=some (.int .i64 u.qos))) (by kernel_rfl) (by simp) (fun hHeld=>?_)
      refine rtk 0 (h:=?_)
      refine rtk 1 (h:=?_)
      refine rtk 2 (h:=?_)
      refine rtk 5 (h:=?_)
      refine rtk 6 (h:=?_)
      refine rtk 7 (h:=?_)
      refine rcl 3 (h:=fun K hK=>?_)
      go_simp
      refine (flag_is _ _ _).mono ?_
      rintro e w2 ⟨rfl,hw2⟩
      obtain rfl:=hw2.symm
      clear hw2
      refine hK.out _ _ (by simp) (fun hHeld=>?_)
      clear hK K
      refine rtk 4 (h:=?_)
      refine rtk 8 (h:=?_)
      refine rtk 9 (h:=?_)
      refine rcl 10 (h:=fun K hK=>?_)
      go_simp
      refine hK.out _ _ (by simp) (fun hHeld=>?_)
      clear hK K
      refine wpAnyH_done (by kernel_rfl) ?_ _
      refine NoPanic.normal ?_
      go_wp2
      go_roundw
      case rel=>exact⟨k+1,false,_,by omega,by go_num,rfl,rfl,hF,by show _=_;rw[uh HO2];rfl,uh HB2⟩
      case measure=>simp[intOf];omega
     ·go_wp2_with fail
      refine (mayQoS_is u.qos _ rfl _).mono ?_
      rintro e w1 ⟨rfl,hw1⟩
      obtain rfl:=hw1.symm
      clear hw1
      go_wp2_with fail
      refine wp_region_noPanic ?_
      refine wp_region_held_drew (S:=(fun w'=>w'.cell? ⟨wr.heap.size,3,none⟩=some (.bool u.retain)/\w'.cell? ⟨wr.heap.size,2,none⟩=some (.int .i64 u.qos))) (by kernel_rfl) (by simp) (fun hHeld=>?_)
      refine rtk 0 (h:=?_)
      refine rtk 1 (h:=?_)
      refine rtk 2 (h:=?_)
      refine rtk 5 (h:=?_)
      refine rtk 6 (h:=?_)
      refine rtk 7 (h:=?_)
      refine rcl 3 (h:=fun K hK=>?_)
      go_simp
      refine (flag_is _ _ _).mono ?_
      rintro e w2 ⟨rfl,hw2⟩
      obtain rfl:=hw2.symm
      clear hw2
      refine hK.out _ _ (by simp) (fun hHeld=>?_)
      clear hK K
      refine rtk 4 (h:=?_)
      refine rtk 8 (h:=?_)
      refine rtk 9 (h:=?_)
      refine rcl 10 (h:=fun K hK=>?_)
      go_simp
      refine hK.out _ _ (by simp) (fun hHeld=>?_)
      clear hK K
      refine wpAnyH_done (by kernel_rfl) ?_ _
      refine NoPanic.normal ?_
      go_wp2
      go_roundw
      case rel=>exact⟨k+1,mq u.qos,_,by omega,by go_num,rfl,rfl,hF,by show _=_;rw[uh HO2];rfl,uh HB2⟩
      case measure=>simp[intOf];omega
 ·go_enter Tryz.func115,Tryz.ntmps115
  go_wp2_with fail
  refine wp_region_noPanic ?_
  refine wp_region_held_drew (S:=(fun w'=>w'.cell? ⟨w.heap.size,12,none⟩=some (.slice a3 n3 c3)/\w'.cell? ⟨w.heap.size,13,none⟩=some (.slice a4 n4 c4)/\w'.cell? ⟨w.heap.size,9,none⟩=some (.bool clean))) (by kernel_rfl) (by simp) (fun hHeld=>?_)
  refine rtk 0 (h:=?_)
  refine rtk 1 (h:=?_)
  refine rtk 2 (h:=?_)
  refine rtk 3 (h:=?_)
  refine rtk 5 (h:=?_)
  refine rtk 6 (h:=?_)
  refine rtk 7 (h:=?_)
  refine rtk 8 (h:=?_)
  refine rtk 11 (h:=?_)
  refine rtk 12 (h:=?_)
  refine rcl 4 (h:=fun K hK=>?_)
  go_simp
  refine (flag_is _ _ _).mono ?_
  rintro e w2 ⟨rfl,hw2⟩
  obtain rfl:=hw2.symm
  clear hw2
  refine hK.out _ _ (by simp) (fun hHeld=>?_)
  clear hK K
  refine rcl 9 (h:=fun K hK=>?_)
  go_simp
  refine (flag_is _ _ _).mono ?_
  rintro e w2 ⟨rfl,hw2⟩
  obtain rfl:=hw2.symm
  clear hw2
  refine hK.out _ _ (by simp) (fun hHeld=>?_)
  clear hK K
  refine rtk 10 (h:=?_)
  refine rcl 13 (h:=fun K hK=>?_)
  go_simp
  refine (flag_is _ _ _).mono ?_
  rintro e w2 ⟨rfl,hw2⟩
  obtain rfl:=hw2.symm
  clear hw2
  refine hK.out _ _ (by simp) (fun hHeld=>?_)
  clear hK K
  refine rtk 14 (h:=?_)
  refine rcl 15 (h:=fun K hK=>?_)
  go_simp
  refine hK.out _ _ (by simp) (fun hHeld=>?_)
  clear hK K
  refine wpAnyH_done (by kernel_rfl) ?_ _
  refine NoPanic.normal ?_
  go_wp2
  go_loopw [2,3,40] (fun f0 o0 i0 wr=>∃ (k:Nat) (bb:Bool) (F:Int),k<=n2/\i0=.int .i64 k/\f0=.int .i64 F/\o0=.bool bb/\Hid (F=(ws.take k).foldl cstep (cfl0 n3 n4 clean))/\Hid (bb=(cok0 n2 n3 n4 && (ws.take k).all fun u=>mq u.qos))/\Below w.heap.size w wr) (fun _ _ i0 _=>n2 - (intOf i0).toNat)
  case atStart=>exact⟨0,_,_,Nat.zero_le _,rfl,rfl,rfl,rfl,by show _=_;simp[cok0,l1],by go_grown⟩
  case round =>
   obtain⟨k,bb,F,hk,rfl,rfl,rfl,HF,HO,hbel⟩:=hrel
   by_cases hkn:k=n2
   ·subst hkn
    have e1:ws.take k=ws:=List.take_of_length_le (by omega)
    have HB:=zh hbel
    clear hbel
    go_wp2
    go_returns
    rw[e1]at HF HO
    exact⟨by rw[uh HF,uh HO,<- hn];rfl,uh HB⟩
   ·have hlt:k < ws.length:=by omega
    obtain⟨u,hu⟩:∃ u,ws[k]?=some u:=⟨_,List.getElem?_eq_getElem hlt⟩
    have e1:ws.take (k+1)=ws.take k++[u]:=by rw[List.take_add_one,hu];rfl
    obtain⟨b,off,ha,t0,t1,t2,t3,t4⟩:=((uh HR).below (hbel)).will k u hu
    simp only at ha
    subst ha
    have hF:Hid (cstep F u=(ws.take (k+1)).foldl cstep (cfl0 n3 n4 clean)):=by show _=_;rw[e1,List.foldl_append,uh HF];rfl
    have hO:(cok0 n2 n3 n4 && (ws.take (k+1)).all fun u=>mq u.qos)=(bb && mq u.qos):=by rw[e1,List.all_append,uh HO];simp[Bool.and_assoc]
    have HO2:=zh hO
    clear hO
    have HB2:Hid (Below w.heap.size w (wr.alloc (.cells #[.string u.topic,.string u.payload,.int .i64 u.qos,.bool u.retain,u.props.val] 112)).drew):=(hbel.alloc hbel.size _).drew
    cases bb
    ·go_wp2_with fail
     refine wp_region_noPanic ?_
     refine wp_region_held_drew (S:=(fun w'=>w'.cell? ⟨wr.heap.size,3,none⟩=some (.bool u.retain)/\w'.cell? ⟨wr.heap.size,2,none⟩=some (.int .i64 u.qos))) (by kernel_rfl) (by simp) (fun hHeld=>?_)
     refine rtk 0 (h:=?_)
     refine rtk 1 (h:=?_)
     refine rtk 2 (h:=?_)
     refine rtk 5 (h:=?_)
     refine rtk 6 (h:=?_)
     refine rtk 7 (h:=?_)
     refine rcl 3 (h:=fun K hK=>?_)
     go_simp
     refine (flag_is _ _ _).mono ?_
     rintro e w2 ⟨rfl,hw2⟩
     obtain rfl:=hw2.symm
     clear hw2
     refine hK.out _ _ (by simp) (fun hHeld=>?_)
     clear hK K
     refine rtk 4 (h:=?_)
     refine rtk 8 (h:=?_)
     refine rtk 9 (h:=?_)
     refine rcl 10 (h:=fun K hK=>?_)
     go_simp
     refine hK.out _ _ (by simp) (fun hHeld=>?_)
     clear hK K
     refine wpAnyH_done (by kernel_rfl) ?_ _
     refine NoPanic.normal ?_
     go_wp2
     go_roundw
     case rel=>exact⟨k+1,false,_,by omega,by go_num,rfl,rfl,hF,by show _=_;rw[uh HO2];rfl,uh HB2⟩
     case measure=>simp[intOf];omega
    ·go_wp2_with fail
     refine (mayQoS_is u.qos _ rfl _).mono ?_
     rintro e w1 ⟨rfl,hw1⟩
     obtain rfl:=hw1.symm
     clear hw1
     go_wp2_with fail
     refine wp_region_noPanic ?_
     refine wp_region_held_drew (S:=(fun w'=>w'.cell? ⟨wr.heap.size,3,none⟩=some (.bool u.retain)/\w'.cell? ⟨wr.heap.size,2,none⟩=some (.int .i64 u.qos))) (by kernel_rfl) (by simp) (fun hHeld=>?_)
     refine rtk 0 (h:=?_)
     refine rtk 1 (h:=?_)
     refine rtk 2 (h:=?_)
     refine rtk 5 (h:=?_)
     refine rtk 6 (h:=?_)
     refine rtk 7 (h:=?_)
     refine rcl 3 (h:=fun K hK=>?_)
     go_simp
     refine (flag_is _ _ _).mono ?_
     rintro e w2 ⟨rfl,hw2⟩
     obtain rfl:=hw2.symm
     clear hw2
     refine hK.out _ _ (by simp) (fun hHeld=>?_)
     clear hK K
     refine rtk 4 (h:=?_)
     refine rtk 8 (h:=?_)
     refine rtk 9 (h:=?_)
     refine rcl 10 (h:=fun K hK=>?_)
     go_simp
     refine hK.out _ _ (by simp) (fun hHeld=>?_)
     clear hK K
     refine wpAnyH_done (by kernel_rfl) ?_ _
     refine NoPanic.normal ?_
     go_wp2
     go_roundw
     case rel=>exact⟨k+1,mq u.qos,_,by omega,by go_num,rfl,rfl,hF,by show _=_;rw[uh HO2];rfl,uh HB2⟩
     case measure=>simp[intOf];omega
theorem and2 (x:Int) (h0:0<=x) (h1:x<=255):(bits .and .i64 x 2 != 0)=btest x 2:=byte_cases (P:=fun x=>(bits .and .i64 x 2 != 0)=btest x 2) (by decide +kernel) x h0 h1
theorem and32 (x:Int) (h0:0<=x) (h1:x<=255):(bits .and .i64 x 32 != 0)=btest x 32:=byte_cases (P:=fun x=>(bits .and .i64 x 32 != 0)=btest x 32) (by decide +kernel) x h0 h1
theorem and64 (x:Int) (h0:0<=x) (h1:x<=255):(bits .and .i64 x 64 != 0)=btest x 64:=byte_cases (P:=fun x=>(bits .and .i64 x 64 != 0)=btest x 64) (by decide +kernel) x h0 h1
theorem and128 (x:Int) (h0:0<=x) (h1:x<=255):(bits .and .i64 x 128 != 0)=btest x 128:=byte_cases (P:=fun x=>(bits .and .i64 x 128 != 0)=btest x 128) (by decide +kernel) x h0 h1
theorem shq (x:Int) (h0:0<=x) (h1:x<=255):bits .and .i64 (x / 8) 3=x / 8 % 4:=byte_cases (P:=fun x=>bits .and .i64 (x / 8) 3=x / 8 % 4) (by decide +kernel) x h0 h1
theorem make_str (w:World):(Instr.makeSlice 25 (.int .i64 1) (.int .i64 1)).run Tryz.prog w=.ok (.slice (some ⟨w.heap.size,0,none⟩) 1 1) (w.alloc (.cells #[.string ⟨#[]⟩] 9)):=by kernel_rfl
def cws (x:Int):List Wv:=if btest x 4 then [⟨⟨#[]⟩,⟨#[]⟩,x / 8 % 4,btest x 32,⟨none,0,0⟩⟩] else []
def cfok (x:Int):Bool:=cok (btest x 128).toNat (btest x 64).toNat (cws x) && (cfl (btest x 128).toNat (btest x 64).toNat (btest x 2) (cws x) == x)
def flags?:List Int->Option (Int×List Int):=bindR one? fun x=>bindR (mustR (cfok x)) fun _=>pureR x
def isW (V:Nat) (b:Bool):Sl:=if b then ⟨some ⟨V,0,none⟩,1,1⟩ else ⟨none,0,0⟩
theorem al {w:World} (ob:Obj):Below w.heap.size w (w.alloc ob):=bal _ _
def Rm (B R:Nat) (w:World) (b:Bool) (V:Nat) (ob:Obj):Prop:=B<=V/\V≠R/\(b=true->V < w.heap.size/\w.heap[V]?=some ob)
theorem Rm.bx {B R:Nat} {may:Nat->Prop} {w w':World} {b:Bool} {V:Nat} {ob:Obj} (h:Rm B R w b V ob) (hx:BX R may w w'):Rm B R w' b V ob :=
 ⟨h.1,h.2.1,fun hb=>⟨Nat.lt_of_lt_of_le (h.2.2 hb).1 hx.size,(hx.block V (h.2.2 hb).1 h.2.1).trans (h.2.2 hb).2⟩⟩
theorem Rm.below {B R:Nat} {w w':World} {b:Bool} {V:Nat} {ob:Obj} (h:Rm B R w b V ob) (hx:Below w.heap.size w w'):Rm B R w' b V ob :=
 ⟨h.1,h.2.1,fun hb=>⟨Nat.lt_of_lt_of_le (h.2.2 hb).1 hx.size,(hx.block V (h.2.2 hb).1).trans (h.2.2 hb).2⟩⟩
theorem Rm.new {B R:Nat} {w:World} (ob:Obj) (hB:B<=w.heap.size) (hR:R < w.heap.size) (b:Bool) (j:Nat) (u:Value):Rm B R ((w.setCell ⟨R,j,none⟩ u).alloc ob) b w.heap.size ob:=by
 have e:(w.setCell ⟨R,j,none⟩ u).heap.size=w.heap.size:=by simp[World.setCell]
 refine⟨hB,by omega,fun _=>⟨by simp,?_⟩⟩
 have k:=heap_alloc_new (w.setCell ⟨R,j,none⟩ u) ob
 rw[e]at k
 exact k
theorem bx_set_al {R:Nat} {a b:World} (h:BX R isAny a b) (j:Nat) (u:Value) (ob:Obj) (hR:R < b.heap.size):BX R isAny a ((b.setCell ⟨R,j,none⟩ u).alloc ob):=(h.set j u trivial).trans (BX.of_below (al _) (by simpa [World.setCell] using hR))
abbrev willO (x:Int):Obj:=.cells #[.string ⟨#[]⟩,.string ⟨#[]⟩,.int .i64 (x / 8 % 4),.bool (btest x 32),.slice none 0 0] 112
abbrev strO:Obj:=.cells #[.string ⟨#[]⟩] 9
structure Rooms (B R:Nat) (w:World) (x:Int) (V U Q:Nat):Prop where
 v:Rm B R w (btest x 4) V (willO x)
 u:Rm B R w (btest x 128) U strO
 q:Rm B R w (btest x 64) Q strO
 vu:btest x 4=true->btest x 128=true->V≠U
 vq:btest x 4=true->btest x 64=true->V≠Q
 uq:btest x 128=true->btest x 64=true->U≠Q
def FlagsPost (w0:World) (R:Nat) (p:Pkv) (st:Option (List Int)) (w:World) (e:Ending) (w':World):Prop :=
 e=.returned (.tuple #[])/\∃ (x:Int) (V U Q:Nat) (st':Option (List Int)),(0<=x/\x<=255)/\Pk w' R { p with clean:=btest x 2,wills:=isW V (btest x 4),user:=isW U (btest x 128),pass:=isW Q (btest x 64) }/\Hid (Rooms w.heap.size R w' x V U Q)/\Stp flags? st x st'/\RS w0 w' R st'/\BX R isAny w w'
theorem Rw.of_new {w:World} {V:Nat} {u:Wv} {t:TypeId} (h:w.heap[V]?=some (.cells #[.string u.topic,.string u.payload,.int .i64 u.qos,.bool u.retain,u.props.val] t)):Rw w ⟨some ⟨V,0,none⟩,1,1⟩ 5 (wcs [u]):=by
 refine⟨rfl,⟨Nat.le_refl _,by unfold maxLen;simp⟩,.inr ⟨V,0,rfl,fun j hj=>?_⟩⟩
 rw[show (wcs [u]).length=5 from rfl]at hj
 match j,hj with
 | 0,_=>simp[World.cell?,h,wcs,Wv.cells]
 | 1,_=>simp[World.cell?,h,wcs,Wv.cells]
 | 2,_=>simp[World.cell?,h,wcs,Wv.cells]
 | 3,_=>simp[World.cell?,h,wcs,Wv.cells]
 | 4,_=>simp[World.cell?,h,wcs,Wv.cells]
theorem Rw.nil (w:World):Rw w ⟨none,0,0⟩ 5 (wcs []):=⟨rfl,⟨Nat.le_refl _,Nat.zero_le _⟩,.inl rfl⟩
theorem rflags_any (R:Nat) (p:Pkv) (st:Option (List Int)) (w0 w:World) (h:RS w0 w R st) (hp:Pk w R p) (hn1:p.wills=⟨none,0,0⟩) (hn2:p.user=⟨none,0,0⟩) (hn3:p.pass=⟨none,0,0⟩):Calls Tryz.prog 80 #[.pointer (some ⟨R,0,none⟩)] w (FlagsPost w0 R p st w):=by
 have hlt:=h.lt
 have HP:=zh hp
 have HS:=zh h
 have HN1:=zh hn1
 have HN2:=zh hn2
 have HN3:=zh hn3
 clear hp h hn1 hn2 hn3
 go_enter Tryz.func80,Tryz.ntmps80
 go_wp2_with fail
 refine wp_region_noPanic ?_
 refine wp_region_held_drew (S:=(fun _=>True)) (by kernel_rfl) trivial (fun hHeld=>?_)
 refine rtk 0 (h:=?_)
 refine rtk 1 (h:=?_)
 refine rtk 2 (h:=?_)
 refine rtk 3 (h:=?_)
 refine rcl 4 (h:=fun K hK=>?_)
 go_simp
 refine (one_any R st w0 _ ((uh HS).below (bel_drew w))).mono ?_
 rintro e w1 ⟨x,st1,rfl,hx,hs1,h1,hx1⟩
 refine hK.out _ _ trivial (fun hHeld=>?_)
 clear hK K
 refine rcl 5 (h:=fun K hK=>?_)
 go_simp
 refine hK.out _ _ trivial (fun hHeld=>?_)
 clear hK K
 refine rcl 6 (h:=fun K hK=>?_)
 go_simp
 refine hK.out _ _ trivial (fun hHeld=>?_)
 clear hK K
 refine wpAnyH_done (by kernel_rfl) ?_ _
 refine NoPanic.normal ?_
 have hp1:=((uh HP).below (bel_drew w)).bx hx1
 have c9:=hp1.clean
 have f9:=hp1.clean_f
 have c11:=hp1.wills
 have f11:=hp1.wills_f
 have hlt1:R < w1.heap.size:=Nat.lt_of_lt_of_le hlt hx1.size
 have hwl:w.heap.size<=w1.heap.size:=hx1.size
 have HP1:=zh (hp1.set_clean (btest x 2))
 have HS1:=zh (h1.set 9 (.bool (btest x 2)) (by decide))
 have HX1:Hid (BX R isAny w (w1.setCell ⟨R,9,none⟩ (.bool (btest x 2)))):=(((BX.of_below (bel_drew w) hlt).trans hx1).any).set 9 _ trivial
 have HST1:=zh hs1
 have b2:=and2 x hx.1 hx.2
 have b4:=and4 x hx.1 hx.2
 have b32:=and32 x hx.1 hx.2
 have b64:=and64 x hx.1 hx.2
 have b128:=and128 x hx.1 hx.2
 have b3:=shq x hx.1 hx.2
 rw[uh HN1]at c11
 clear hp1 h1 hx1 hs1 hHeld
 go_upto_if 21 with fail
 go_cut [] from 4 (fun wx=>∃ V,Hid (RS w0 wx R st1)/\Hid (Pk wx R { p with clean:=btest x 2,wills:=isW V (btest x 4) })/\Hid (BX R isAny w wx)/\Hid (Rm w.heap.size R wx (btest x 4) V (willO x)))
 case first =>
  cases h4:btest x 4
  ·rw[h4]at b4
   go_wp2
   go_meet
   case rel =>
    rw[h4]
    refine⟨w1.heap.size,HS1,?_,HX1,⟨hwl,by omega,fun h=>by cases h⟩⟩
    have e:{ p with clean:=btest x 2,wills:=isW w1.heap.size false }={ p with clean:=btest x 2 }:=by rw[show isW w1.heap.size false=p.wills from (uh HN1).symm]
    show Pk _ _ _
    rw[e]
    exact uh HP1
  ·rw[h4]at b4
   go_wp2
   go_meet
   case rel =>
    rw[h4]
    refine⟨w1.heap.size,((uh HS1).set 11 _ (by decide)).below (al _),((uh HP1).set_wills ⟨some ⟨w1.heap.size,0,none⟩,1,1⟩).below (al _),bx_set_al (uh HX1) 11 _ _ (by simpa [World.setCell] using hlt1),?_⟩
    have k:=Rm.new (B:=w.heap.size) (R:=R) (w:=w1.setCell ⟨R,9,none⟩ (.bool (btest x 2))) (willO x) (by simpa [World.setCell] using hwl) (by simpa [World.setCell] using hlt1) true 11 (.slice (some ⟨w1.heap.size,0,none⟩) 1 1)
    rw[show (w1.setCell ⟨R,9,none⟩ (.bool (btest x 2))).heap.size=w1.heap.size from by simp[World.setCell]]at k
    exact k
 case rest =>
 obtain⟨V,HS2,HP2,HX2,HV⟩:=hcut
 obtain⟨w2,hw2⟩:∃ w2,w2=wc:=⟨wc,rfl⟩
 subst hw2
 clear HP1 HS1 HX1 hlt1 hwl c9 f9 c11 f11
 have c12:=(uh HP2).user
 have f12:=(uh HP2).user_f
 simp only at c12
 rw[uh HN2]at c12
 have hlt2:R < w2.heap.size:=(uh HS2).lt
 have hwl2:w.heap.size<=w2.heap.size:=(uh HX2).size
 have hmk:=make_str
 go_upto_if 37 with fail
 go_cut [] from 4 (fun wx=>∃ U,Hid (RS w0 wx R st1)/\Hid (Pk wx R { p with clean:=btest x 2,wills:=isW V (btest x 4),user:=isW U (btest x 128) })/\Hid (BX R isAny w wx)/\Hid (Rm w.heap.size R wx (btest x 4) V (willO x))/\Hid (Rm w.heap.size R wx (btest x 128) U strO)/\Hid ((btest x 4=true->btest x 128=true->V≠U)))
 case first =>
  cases hb:btest x 128
  ·rw[hb]at b128
   go_wp2
   go_meet
   case rel =>
    refine⟨w2.heap.size,HS2,?_,HX2,HV,⟨hwl2,by omega,fun h=>by rw[hb]at h;cases h⟩,fun _ h=>by rw[hb]at h;cases h⟩
    have e:({ p with clean:=btest x 2,wills:=isW V (btest x 4),user:=isW w2.heap.size (btest x 128) }:Pkv)={ p with clean:=btest x 2,wills:=isW V (btest x 4) }:=by rw[hb,show isW w2.heap.size false=p.user from (uh HN2).symm]
    show Pk _ _ _
    rw[e]
    exact uh HP2
  ·rw[hb]at b128
   go_wp2
   go_meet
   case rel =>
    refine⟨w2.heap.size,((uh HS2).set 12 _ (by decide)).below (al _),?_,bx_set_al (uh HX2) 12 _ _ hlt2,(uh HV).bx (bx_set_al (BX.refl R isAny w2) 12 _ _ hlt2),Rm.new strO hwl2 hlt2 _ 12 _,fun h _=>by have:=((uh HV).2.2 h).1;omega⟩
    rw[hb]
    exact ((uh HP2).set_user ⟨some ⟨w2.heap.size,0,none⟩,1,1⟩).below (al _)
 case rest =>
 obtain⟨U,HS3,HP3,HX3,HV',HU,HVU⟩:=hcut
 obtain⟨w3,hw3⟩:∃ w3,w3=wc:=⟨wc,rfl⟩
 subst hw3
 clear HP2 HS2 HX2 hlt2 hwl2 c12 f12 HV
 have HV:=HV'
 clear HV'
 have c13:=(uh HP3).pass
 have f13:=(uh HP3).pass_f
 simp only at c13
 rw[uh HN3]at c13
 have hlt3:R < w3.heap.size:=(uh HS3).lt
 have hwl3:w.heap.size<=w3.heap.size:=(uh HX3).size
 have hmk:=make_str
 go_upto_if 44 with fail
 go_cut [] from 4 (fun wx=>∃ Q,Hid (RS w0 wx R st1)/\Hid (Pk wx R { p with clean:=btest x 2,wills:=isW V (btest x 4),user:=isW U (btest x 128),pass:=isW Q (btest x 64) })/\Hid (BX R isAny w wx)/\Hid (Rm w.heap.size R wx (btest x 4) V (willO x))/\Hid (Rm w.heap.size R wx (btest x 128) U strO)/\Hid (Rm w.heap.size R wx (btest x 64) Q strO)/\Hid ((btest x 4=true->btest x 64=true->V≠Q)/\(btest x 128=true->btest x 64=true->U≠Q)))
 case first =>
  cases hb:btest x 64
  ·rw[hb]at b64
   go_wp2
   go_meet
   case rel =>
    refine⟨w3.heap.size,HS3,?_,HX3,HV,HU,⟨hwl3,by omega,fun h=>by rw[hb]at h;cases h⟩,⟨(fun _ h=>by rw[hb]at h;cases h),(fun _ h=>by rw[hb]at h;cases h)⟩⟩
    have e:({ p with clean:=btest x 2,wills:=isW V (btest x 4),user:=isW U (btest x 128),pass:=isW w3.heap.size (btest x 64) }:Pkv)={ p with clean:=btest x 2,wills:=isW V (btest x 4),user:=isW U (btest x 128) }:=by rw[hb,show isW w3.heap.size false=p.pass from (uh HN3).symm]
    show Pk _ _ _
    rw[e]
    exact uh HP3
  ·rw[hb]at b64
   go_wp2
   go_meet
   case rel =>
    refine⟨w3.heap.size,((uh HS3).set 13 _ (by decide)).below (al _),?_,bx_set_al (uh HX3) 13 _ _ hlt3,(uh HV).bx (bx_set_al (BX.refl R isAny w3) 13 _ _ hlt3),(uh HU).bx (bx_set_al (BX.refl R isAny w3) 13 _ _ hlt3),Rm.new strO hwl3 hlt3 _ 13 _,⟨(fun h _=>by have:=((uh HV).2.2 h).1;omega),(fun h _=>by have:=((uh HU).2.2 h).1;omega)⟩⟩
    rw[hb]
    exact ((uh HP3).set_pass ⟨some ⟨w3.heap.size,0,none⟩,1,1⟩).below (al _)
 case rest =>
 obtain⟨Q,HS4,HP4,HX4,HV',HU',HQ,HVQ⟩:=hcut
 obtain⟨w4,hw4⟩:∃ w4,w4=wc:=⟨wc,rfl⟩
 subst hw4
 clear HP3 HS3 HX3 hlt3 hwl3 c13 f13 HV HU
 obtain⟨q,hq⟩:∃ q:Pkv,q={ p with clean:=btest x 2,wills:=isW V (btest x 4),user:=isW U (btest x 128),pass:=isW Q (btest x 64) }:=⟨_,rfl⟩
 have HP5:Hid (Pk w4 R q):=by rw[hq];exact HP4
 have HRW:Hid (Rw w4 q.wills 5 (wcs (cws x))):=by
  show Rw _ _ _ _
  rw[hq]
  unfold cws
  cases h4:btest x 4
  ·exact Rw.nil _
  ·have k:=((uh HV').2.2 h4).2
   exact Rw.of_new (u:=⟨⟨#[]⟩,⟨#[]⟩,x / 8 % 4,btest x 32,⟨none,0,0⟩⟩) k
 have hun:q.user.n=(btest x 128).toNat:=by rw[hq];cases btest x 128 <;> rfl
 have hpn:q.pass.n=(btest x 64).toNat:=by rw[hq];cases btest x 64 <;> rfl
 have hcl:q.clean=btest x 2:=by rw[hq]
 have HCF:Hid (cfok x=(cok q.user.n q.pass.n (cws x) && (cfl q.user.n q.pass.n q.clean (cws x) == x))):=by show _=_;rw[hun,hpn,hcl];rfl
 have hu1:q.user.n<=maxLen:=by rw[hun];cases btest x 128 <;> simp[maxLen]
 have hp1:q.pass.n<=maxLen:=by rw[hpn];cases btest x 64 <;> simp[maxLen]
 have HQ5:=zh hq
 clear hq hun hpn hcl
 have HCC:=zh (connectFlags_any q (cws x) w4 (uh HRW) hu1 hp1)
 generalize cfl q.user.n q.pass.n q.clean (cws x)=fl at HCF HCC
 generalize cok q.user.n q.pass.n (cws x)=bo at HCF HCC
 clear hu1 hp1
 go_upto_region 9 with fail
 iterate 7 go_step
 refine wpList_load_mid rfl 29 _ rfl R 0 rfl q.cells _ (uh HP5).range Tryz.underlying29 rfl packet_size ?_
 simp only[Act.put,List.setIfInBounds_toArray,List.set_cons_zero,List.set_cons_succ]
 go_wp2_with fail
 refine (uh HCC).mono ?_
 rintro e w5 ⟨rfl,hb5⟩
 have HB5:=zh hb5
 have HS5:=zh ((uh HS4).below hb5)
 clear hb5
 cases bo
 ·go_wp2_with fail
  refine (must_any R _ st1 w0 w5 (uh HS5)).mono ?_
  rintro e w6 ⟨rfl,h6,hx6⟩
  have HS6:=zh h6
  have HX6:=zh hx6
  clear h6 hx6
  go_wp2
  go_end0
  refine⟨rfl,x,V,U,Q,_,hx,((uh HP4).below (uh HB5)).bx (uh HX6),⟨((uh HV').below (uh HB5)).bx (uh HX6),((uh HU').below (uh HB5)).bx (uh HX6),((uh HQ).below (uh HB5)).bx (uh HX6),uh HVU,(uh HVQ).1,(uh HVQ).2⟩,?_,uh HS6,((uh HX4).trans (BX.of_below (uh HB5) (uh HS4).lt)).trans (uh HX6).any⟩
  refine (uh HST1).bind ((?_:Stp (mustR (cfok x)) st1 () (if false then st1 else none)).bind (Stp.pure _ _))
  rw[uh HCF]
  exact Stp.must _ _
 ·go_wp2_with fail
  refine (must_any R _ st1 w0 w5 (uh HS5)).mono ?_
  rintro e w6 ⟨rfl,h6,hx6⟩
  have HS6:=zh h6
  have HX6:=zh hx6
  clear h6 hx6
  go_wp2
  go_end0
  refine⟨rfl,x,V,U,Q,_,hx,((uh HP4).below (uh HB5)).bx (uh HX6),⟨((uh HV').below (uh HB5)).bx (uh HX6),((uh HU').below (uh HB5)).bx (uh HX6),((uh HQ).below (uh HB5)).bx (uh HX6),uh HVU,(uh HVQ).1,(uh HVQ).2⟩,?_,uh HS6,((uh HX4).trans (BX.of_below (uh HB5) (uh HS4).lt)).trans (uh HX6).any⟩
  refine (uh HST1).bind ((?_:Stp (mustR (cfok x)) st1 () (if (fl == x) then st1 else none)).bind (Stp.pure _ _))
  rw[uh HCF]
  exact Stp.must _ _
def will? (x:Int):List Int->Option (Option (List Pr×ByteArray×ByteArray)×List Int):=if btest x 4 then bindR (props? 16) fun q=>bindR text? fun t=>bindR bin? fun y=>pureR (some (q,t,y)) else pureR none
def user? (x:Int):List Int->Option (Option ByteArray×List Int):=if btest x 128 then bindR text? fun t=>pureR (some t) else pureR none
def pass? (x:Int):List Int->Option (Option ByteArray×List Int):=if btest x 64 then bindR bin? fun t=>pureR (some t) else pureR none
structure Cn where
 x:Int
 keep:Int
 props:List Pr
 client:ByteArray
 will:Option (List Pr×ByteArray×ByteArray)
 user:Option ByteArray
 pass:Option ByteArray
def isMQTT (m:ByteArray):Bool:=m.toList == [77,81,84,84]
def connect?:List Int->Option (Cn×List Int) :=
 bindR text? fun m=>bindR (mustR (isMQTT m)) fun _=>bindR one? fun v=>bindR (mustR (v == 5)) fun _=>bindR flags? fun x=>bindR two? fun k=>bindR (props? 1) fun pr=>bindR text? fun c =>
  bindR (will? x) fun wl=>bindR (user? x) fun us=>bindR (pass? x) fun pa=>pureR ⟨x,k,pr,c,wl,us,pa⟩
def WillAt (B N R:Nat) (w:World) (x:Int) (V:Nat) (wl:Option (List Pr×ByteArray×ByteArray)):Prop :=
 (btest x 4=false->wl=none)/\(btest x 4=true->∃ q t y tq,wl=some (q,t,y)/\B<=V/\V≠R/\V < w.heap.size/\w.heap[V]?=some (.cells #[.string t,.string y,.int .i64 (x / 8 % 4),.bool (btest x 32),Sl.val tq] 112)/\w.ownsRow N 109 4 tq.val q.length (pcs q))
def StrAt (B R:Nat) (w:World) (b:Bool) (U:Nat) (us:Option ByteArray):Prop :=
 (b=false->us=none)/\(b=true->∃ t,us=some t/\B<=U/\U≠R/\U < w.heap.size/\w.heap[U]?=some (.cells #[.string t] 9))
theorem StrAt.bx {B R:Nat} {may:Nat->Prop} {w w':World} {b:Bool} {U:Nat} {us:Option ByteArray} (h:StrAt B R w b U us) (hx:BX R may w w'):StrAt B R w' b U us :=
 ⟨h.1,fun hb=>by
  obtain⟨t,h1,h2,h3,h4,h5⟩:=h.2 hb
  exact⟨t,h1,h2,h3,Nat.lt_of_lt_of_le h4 hx.size,(hx.block U h4 h3).trans h5⟩⟩
theorem owns_out {w:World} {V j:Nat} {u:Value} {B:Nat} {e:TypeId} {s:Nat} {v:Value} {n:Nat} {xs:List Value} (h:w.ownsRow B e s v n xs) (hV:V < B):(w.setCell ⟨V,j,none⟩ u).ownsRow B e s v n xs:=by
 refine⟨h.1,?_⟩
 rcases h.2 with h1 | ⟨g,cap,cur,hv,hB,hg,rest⟩
 ·exact .inl h1
 ·exact .inr ⟨g,cap,cur,hv,hB,by rw[Below.heap_setCell _ _ _ _ (by show g≠V;omega)];exact hg,rest⟩
theorem WillAt.bx {B N R:Nat} {may:Nat->Prop} {w w':World} {x:Int} {V:Nat} {wl:Option (List Pr×ByteArray×ByteArray)} (h:WillAt B N R w x V wl) (hx:BX R may w w') (hR:R < N):WillAt B N R w' x V wl :=
 ⟨h.1,fun hb=>by
  obtain⟨q,t,y,tq,h1,h2,h3,h4,h5,h6⟩:=h.2 hb
  exact⟨q,t,y,tq,h1,h2,h3,Nat.lt_of_lt_of_le h4 hx.size,(hx.block V h4 h3).trans h5,owns_bx h6 hx hR⟩⟩
theorem WillAt.out {B N R:Nat} {w:World} {x:Int} {V U j:Nat} {u:Value} {wl:Option (List Pr×ByteArray×ByteArray)} (h:WillAt B N R w x V wl) (hU:btest x 4=true->V≠U) (hN:U < N):WillAt B N R (w.setCell ⟨U,j,none⟩ u) x V wl :=
 ⟨h.1,fun hb=>by
  obtain⟨q,t,y,tq,h1,h2,h3,h4,h5,h6⟩:=h.2 hb
  exact⟨q,t,y,tq,h1,h2,h3,by simpa [World.setCell] using h4,(Below.heap_setCell _ _ _ _ (hU hb)).trans h5,owns_out h6 hN⟩⟩
theorem StrAt.out {B R:Nat} {w:World} {b:Bool} {U V j:Nat} {u:Value} {us:Option ByteArray} (h:StrAt B R w b U us) (hV:b=true->U≠V):StrAt B R (w.setCell ⟨V,j,none⟩ u) b U us :=
 ⟨h.1,fun hb=>by
  obtain⟨t,h1,h2,h3,h4,h5⟩:=h.2 hb
  exact⟨t,h1,h2,h3,by simpa [World.setCell] using h4,(Below.heap_setCell _ _ _ _ (hV hb)).trans h5⟩⟩
theorem Rm.out {B R:Nat} {w:World} {b:Bool} {U V j:Nat} {u:Value} {ob:Obj} (h:Rm B R w b U ob) (hV:b=true->U≠V):Rm B R (w.setCell ⟨V,j,none⟩ u) b U ob :=
 ⟨h.1,h.2.1,fun hb=>⟨by simpa [World.setCell] using (h.2.2 hb).1,(Below.heap_setCell _ _ _ _ (hV hb)).trans (h.2.2 hb).2⟩⟩
theorem WillAt.base {B B' N R:Nat} {w:World} {x:Int} {V:Nat} {wl:Option (List Pr×ByteArray×ByteArray)} (h:WillAt B N R w x V wl) (hB:B'<=B):WillAt B' N R w x V wl :=
 ⟨h.1,fun hb=>by
  obtain⟨q,t,y,tq,h1,h2,h3⟩:=h.2 hb
  exact⟨q,t,y,tq,h1,Nat.le_trans hB h2,h3⟩⟩
theorem StrAt.base {B B' R:Nat} {w:World} {b:Bool} {U:Nat} {us:Option ByteArray} (h:StrAt B R w b U us) (hB:B'<=B):StrAt B' R w b U us :=
 ⟨h.1,fun hb=>by
  obtain⟨t,h1,h2,h3⟩:=h.2 hb
  exact⟨t,h1,Nat.le_trans hB h2,h3⟩⟩
theorem pk_out {w:World} {R V j:Nat} {u:Value} {p:Pkv} (h:Pk w R p) (hV:V≠R):Pk (w.setCell ⟨V,j,none⟩ u) R p:=fun i hi =>
 ⟨(World.cell?_setCell_other _ _ _ _ (fun e=>by injection e with e1 _;exact hV e1)).trans (h i hi).1,by simpa using (h i hi).2⟩
theorem heap_set {w:World} {V j:Nat} {u:Value} {c:Array Value} {t:TypeId} (h:w.heap[V]?=some (.cells c t)):(w.setCell ⟨V,j,none⟩ u).heap[V]?=some (.cells (c.setIfInBounds j u) t):=by
 unfold World.setCell
 simp[Array.getElem?_modify,h]
end Go.Proofs.YtpheelbbpiieiaaGreatDoor.K
