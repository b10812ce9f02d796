/- Proved here: helpers, one text behind the other. -/
import Derived.Test.YtccnjdgaldbgnaaGreatDoorZC5
import Derived.Test.YtccnjdgaldbgnaaGreatDoorZC21
import Derived.Laws.AppendOwn
set_option maxHeartbeats 20000000
namespace Go.Proofs.YtccnjdgaldbgnaaGreatDoor.K
open Go.RowKit
set_option maxRecDepth 100000
structure Wv where
 topic:ByteArray
 payload:ByteArray
 qos:Int
 retain:Bool
 props:Sl
def Wv.cells (u:Wv):List Value:=[.string u.topic,.string u.payload,.int .i64 u.qos,.bool u.retain,u.props.val]
def wcs (ws:List Wv):List Value:=ws.flatMap Wv.cells
def Rw (w:World) (t:Sl) (s:Nat) (vs:List Value):Prop:=vs.length=t.n * s/\(t.n<=t.cap/\t.cap<=maxLen)/\(t.n=0\/∃ b off,t.ao=some ⟨b,off,none⟩/\∀ j,j < vs.length->w.cell? ⟨b,off+j,none⟩=vs[j]?)
theorem Rw.below {w w':World} {t:Sl} {s:Nat} {vs:List Value} (h:Rw w t s vs) (hb:Below w.heap.size w w'):Rw w' t s vs:=by
 obtain⟨h1,h2,h3⟩:=h
 refine⟨h1,h2,?_⟩
 rcases h3 with h3 | ⟨b,off,e,hc⟩
 ·exact .inl h3
 ·refine .inr ⟨b,off,e,fun j hj=>?_⟩
  have:=hc j hj
  rw[List.getElem?_eq_getElem hj]at this
  rw[hb.cell (p:=⟨b,off+j,none⟩) (cell_lt this),List.getElem?_eq_getElem hj]
  exact this
theorem wcs_length (ws:List Wv):(wcs ws).length=ws.length * 5:=by
 induction ws with
 | nil=>rfl
 | cons u us ih=>unfold wcs at *;simp only[List.flatMap_cons,List.length_append,ih,List.length_cons,Wv.cells,List.length_nil];omega
theorem wcs_get (ws:List Wv):∀ (i:Nat) (u:Wv),ws[i]?=some u->∀ j,j < 5->(wcs ws)[i * 5+j]?=u.cells[j]?:=by
 induction ws with
 | nil=>intro i u h;simp at h
 | cons v us ih =>
  intro i u h j hj
  cases i with
  | zero =>
   simp at h
   subst h
   unfold wcs
   rw[List.flatMap_cons,Nat.zero_mul,Nat.zero_add,List.getElem?_append_left (by simp[Wv.cells];omega)]
  | succ i =>
   simp at h
   have:=ih i u h j hj
   unfold wcs at *
   rw[List.flatMap_cons,List.getElem?_append_right (by simp[Wv.cells];omega),<- this]
   congr 1
   simp[Wv.cells]
   omega
theorem Rw.will {w:World} {t:Sl} {ws:List Wv} (h:Rw w t 5 (wcs ws)) (i:Nat) (u:Wv) (hu:ws[i]?=some u):∃ b off,t.ao=some ⟨b,off,none⟩/\w.cell? ⟨b,off+i * 5,none⟩=some (.string u.topic)/\w.cell? ⟨b,off+i * 5+1,none⟩=some (.string u.payload)/\w.cell? ⟨b,off+i * 5+2,none⟩=some (.int .i64 u.qos)/\w.cell? ⟨b,off+i * 5+3,none⟩=some (.bool u.retain)/\w.cell? ⟨b,off+i * 5+4,none⟩=some u.props.val:=by
 obtain⟨h1,h2,h3⟩:=h
 have hi:i < ws.length:=(List.getElem?_eq_some_iff.1 hu).1
 rw[wcs_length]at h1
 rcases h3 with h3 | ⟨b,off,e,hc⟩
 ·omega
 ·refine⟨b,off,e,?_⟩
  have k:∀ j,j < 5->w.cell? ⟨b,off+(i * 5+j),none⟩=u.cells[j]?:=fun j hj=>(hc (i * 5+j) (by rw[wcs_length];omega)).trans (wcs_get ws i u hu j hj)
  exact⟨k 0 (by omega),(by have:=k 1 (by omega);rw[<- Nat.add_assoc]at this;exact this),(by have:=k 2 (by omega);rw[<- Nat.add_assoc]at this;exact this),(by have:=k 3 (by omega);rw[<- Nat.add_assoc]at this;exact this),(by have:=k 4 (by omega);rw[<- Nat.add_assoc]at this;exact this)⟩
def cstep (f:Int) (u:Wv):Int:=bits .or .i64 f (bits .or .i64 (bits .or .i64 4 (fv u.retain 32)) (IntKind.i64.wrap (u.qos * 8)))
def cfl0 (nu np:Nat) (clean:Bool):Int:=bits .or .i64 (bits .or .i64 (fv (decide (0 < nu)) 128) (fv (decide (0 < np)) 64)) (fv clean 2)
def cfl (nu np:Nat) (clean:Bool) (ws:List Wv):Int:=ws.foldl cstep (cfl0 nu np clean)
def cok0 (nw nu np:Nat):Bool:=decide (nw<=1) && decide (nu<=1) && decide (np<=1)
def cok (nu np:Nat) (ws:List Wv):Bool:=cok0 ws.length nu np && ws.all fun u=>mq u.qos
theorem connectFlags_any (p:Pkv) (ws:List Wv) (w:World) (h:Rw w p.wills 5 (wcs ws)) (hu:p.user.n<=maxLen) (hp:p.pass.n<=maxLen):Calls Tryz.prog 56 #[p.val] w fun e w'=>e=.returned (.tuple #[.int .i64 (cfl p.user.n p.pass.n p.clean ws),.bool (cok p.user.n p.pass.n ws)])/\Below w.heap.size w w':=by
 obtain⟨kind,dup,qos,retain,topic,id,payload,⟨a1,n1,c1⟩,client,clean,keep,⟨a2,n2,c2⟩,⟨a3,n3,c3⟩,⟨a4,n4,c4⟩,code,session,⟨a5,n5,c5⟩,⟨a6,n6,c6⟩,⟨a7,n7,c7⟩⟩:=p
 simp only at h hu hp
 dsimp only[Pkv.val,Sl.val]
 have hn:ws.length=n2:=by have:=h.1;rw[wcs_length]at this;simp only at this;omega
 have hcap:=h.2.1
 simp only at hcap
 unfold maxLen at hu hp hcap
 have HR:=zh h
 clear h
 by_cases l1:n2<=1
 ·by_cases l2:n3<=1
  ·go_enter Tryz.func56,Tryz.ntmps56
   go_wp2_with fail
   refine wp_region_noPanic ?_
   refine wp_region_held_drew (S:=(fun w'=>w'.cell? ⟨w.heap.size,12,none⟩=some (.slice a3 n3 c3)/\w'.cell? ⟨w.heap.size,13,none⟩=some (.slice a4 n4 c4)/\w'.cell? ⟨w.heap.size,9,none⟩=some (.bool clean))) (by kernel_rfl) (by simp) (fun hHeld=>?_)
   refine rtk 0 (h:=?_)
   refine rtk 1 (h:=?_)
   refine rtk 2 (h:=?_)
   refine rtk 3 (h:=?_)
   refine rtk 5 (h:=?_)
   refine rtk 6 (h:=?_)
   refine rtk 7 (h:=?_)
   refine rtk 8 (h:=?_)
   refine rtk 11 (h:=?_)
   refine rtk 12 (h:=?_)
   refine rcl 4 (h:=fun K hK=>?_)
   go_simp
   refine (flag_is _ _ _).mono ?_
   rintro e w2 ⟨rfl,hw2⟩
   obtain rfl:=hw2.symm
   clear hw2
   refine hK.out _ _ (by simp) (fun hHeld=>?_)
   clear hK K
   refine rcl 9 (h:=fun K hK=>?_)
   go_simp
   refine (flag_is _ _ _).mono ?_
   rintro e w2 ⟨rfl,hw2⟩
   obtain rfl:=hw2.symm
   clear hw2
   refine hK.out _ _ (by simp) (fun hHeld=>?_)
   clear hK K
   refine rtk 10 (h:=?_)
   refine rcl 13 (h:=fun K hK=>?_)
   go_simp
   refine (flag_is _ _ _).mono ?_
   rintro e w2 ⟨rfl,hw2⟩
   obtain rfl:=hw2.symm
   clear hw2
   refine hK.out _ _ (by simp) (fun hHeld=>?_)
   clear hK K
   refine rtk 14 (h:=?_)
   refine rcl 15 (h:=fun K hK=>?_)
   go_simp
   refine hK.out _ _ (by simp) (fun hHeld=>?_)
   clear hK K
   refine wpAnyH_done (by kernel_rfl) ?_ _
   refine NoPanic.normal ?_
   go_wp2
   go_loopw [2,3,40] (fun f0 o0 i0 wr=>∃ (k:Nat) (bb:Bool) (F:Int),k<=n2/\i0=.int .i64 k/\f0=.int .i64 F/\o0=.bool bb/\Hid (F=(ws.take k).foldl cstep (cfl0 n3 n4 clean))/\Hid (bb=(cok0 n2 n3 n4 && (ws.take k).all fun u=>mq u.qos))/\Below w.heap.size w wr) (fun _ _ i0 _=>n2 - (intOf i0).toNat)
   case atStart=>exact⟨0,_,_,Nat.zero_le _,rfl,rfl,rfl,rfl,by show _=_;simp[cok0,l1,l2];omega,by go_grown⟩
   case round =>
    obtain⟨k,bb,F,hk,rfl,rfl,rfl,HF,HO,hbel⟩:=hrel
    by_cases hkn:k=n2
    ·subst hkn
     have e1:ws.take k=ws:=List.take_of_length_le (by omega)
     have HB:=zh hbel
     clear hbel
     go_wp2
     go_returns
     rw[e1]at HF HO
     exact⟨by rw[uh HF,uh HO,<- hn];rfl,uh HB⟩
    ·have hlt:k < ws.length:=by omega
     obtain⟨u,hu⟩:∃ u,ws[k]?=some u:=⟨_,List.getElem?_eq_getElem hlt⟩
     have e1:ws.take (k+1)=ws.take k++[u]:=by rw[List.take_add_one,hu];rfl
     obtain⟨b,off,ha,t0,t1,t2,t3,t4⟩:=((uh HR).below (hbel)).will k u hu
     simp only at ha
     subst ha
     have hF:Hid (cstep F u=(ws.take (k+1)).foldl cstep (cfl0 n3 n4 clean)):=by show _=_;rw[e1,List.foldl_append,uh HF];rfl
     have hO:(cok0 n2 n3 n4 && (ws.take (k+1)).all fun u=>mq u.qos)=(bb && mq u.qos):=by rw[e1,List.all_append,uh HO];simp[Bool.and_assoc]
     have HO2:=zh hO
     clear hO
     have HB2:Hid (Below w.heap.size w (wr.alloc (.cells #[.string u.topic,.string u.payload,.int .i64 u.qos,.bool u.retain,u.props.val] 120)).drew):=(hbel.alloc hbel.size _).drew
     cases bb
     ·go_wp2_with fail
      refine wp_region_noPanic ?_
      refine wp_region_held_drew (S:=(fun w'=>w'.cell? ⟨wr.heap.size,3,none⟩=some (.bool u.retain)/\w'.cell? ⟨wr.heap.size,2,none⟩=some (.int .i64 u.qos))) (by kernel_rfl) (by simp) (fun hHeld=>?_)
      refine rtk 0 (h:=?_)
      refine rtk 1 (h:=?_)
      refine rtk 2 (h:=?_)
      refine rtk 5 (h:=?_)
      refine rtk 6 (h:=?_)
      refine rtk 7 (h:=?_)
      refine rcl 3 (h:=fun K hK=>?_)
      go_simp
      refine (flag_is _ _ _).mono ?_
      rintro e w2 ⟨rfl,hw2⟩
      obtain rfl:=hw2.symm
      clear hw2
      refine hK.out _ _ (by simp) (fun hHeld=>?_)
      clear hK K
      refine rtk 4 (h:=?_)
      refine rtk 8 (h:=?_)
      refine rtk 9 (h:=?_)
      refine rcl 10 (h:=fun K hK=>?_)
      go_simp
      refine hK.out _ _ (by simp) (fun hHeld=>?_)
      clear hK K
      refine wpAnyH_done (by kernel_rfl) ?_ _
      refine NoPanic.normal ?_
      go_wp2
      go_roundw
      case rel=>exact⟨k+1,false,_,by omega,by go_num,rfl,rfl,hF,by show _=_;rw[uh HO2];rfl,uh HB2⟩
      case measure=>simp[intOf];omega
     ·go_wp2_with fail
      refine (mayQoS_is u.qos _ rfl _).mono ?_
      rintro e w1 ⟨rfl,hw1⟩
      obtain rfl:=hw1.symm
      clear hw1
      go_wp2_with fail
      refine wp_region_noPanic ?_
      refine wp_region_held_drew (S:=(fun w'=>w'.cell? ⟨wr.heap.size,3,none⟩=some (.bool u.retain)/\w'.cell? ⟨wr.heap.size,2,none⟩=some (.int .i64 u.qos))) (by kernel_rfl) (by simp) (fun hHeld=>?_)
      refine rtk 0 (h:=?_)
      refine rtk 1 (h:=?_)
      refine rtk 2 (h:=?_)
      refine rtk 5 (h:=?_)
      refine rtk 6 (h:=?_)
      refine rtk 7 (h:=?_)
      refine rcl 3 (h:=fun K hK=>?_)
      go_simp
      refine (flag_is _ _ _).mono ?_
      rintro e w2 ⟨rfl,hw2⟩
      obtain rfl:=hw2.symm
      clear hw2
      refine hK.out _ _ (by simp) (fun hHeld=>?_)
      clear hK K
      refine rtk 4 (h:=?_)
      refine rtk 8 (h:=?_)
      refine rtk 9 (h:=?_)
      refine rcl 10 (h:=fun K hK=>?_)
      go_simp
      refine hK.out _ _ (by simp) (fun hHeld=>?_)
      clear hK K
      refine wpAnyH_done (by kernel_rfl) ?_ _
      refine NoPanic.normal ?_
      go_wp2
      go_roundw
      case rel=>exact⟨k+1,mq u.qos,_,by omega,by go_num,rfl,rfl,hF,by show _=_;rw[uh HO2];rfl,uh HB2⟩
      case measure=>simp[intOf];omega
  ·go_enter Tryz.func56,Tryz.ntmps56
   go_wp2_with fail
   refine wp_region_noPanic ?_
   refine wp_region_held_drew (S:=(fun w'=>w'.cell? ⟨w.heap.size,12,none⟩=some (.slice a3 n3 c3)/\w'.cell? ⟨w.heap.size,13,none⟩=some (.slice a4 n4 c4)/\w'.cell? ⟨w.heap.size,9,none⟩=some (.bool clean))) (by kernel_rfl) (by simp) (fun hHeld=>?_)
   refine rtk 0 (h:=?_)
   refine rtk 1 (h:=?_)
   refine rtk 2 (h:=?_)
   refine rtk 3 (h:=?_)
   refine rtk 5 (h:=?_)
   refine rtk 6 (h:=?_)
   refine rtk 7 (h:=?_)
   refine rtk 8 (h:=?_)
   refine rtk 11 (h:=?_)
   refine rtk 12 (h:=?_)
   refine rcl 4 (h:=fun K hK=>?_)
   go_simp
   refine (flag_is _ _ _).mono ?_
   rintro e w2 ⟨rfl,hw2⟩
   obtain rfl:=hw2.symm
   clear hw2
   refine hK.out _ _ (by simp) (fun hHeld=>?_)
   clear hK K
   refine rcl 9 (h:=fun K hK=>?_)
   go_simp
   refine (flag_is _ _ _).mono ?_
   rintro e w2 ⟨rfl,hw2⟩
   obtain rfl:=hw2.symm
   clear hw2
   refine hK.out _ _ (by simp) (fun hHeld=>?_)
   clear hK K
   refine rtk 10 (h:=?_)
   refine rcl 13 (h:=fun K hK=>?_)
   go_simp
   refine (flag_is _ _ _).mono ?_
   rintro e w2 ⟨rfl,hw2⟩
   obtain rfl:=hw2.symm
   clear hw2
   refine hK.out _ _ (by simp) (fun hHeld=>?_)
   clear hK K
   refine rtk 14 (h:=?_)
   refine rcl 15 (h:=fun K hK=>?_)
   go_simp
   refine hK.out _ _ (by simp) (fun hHeld=>?_)
   clear hK K
   refine wpAnyH_done (by kernel_rfl) ?_ _
   refine NoPanic.normal ?_
   go_wp2
   go_loopw [2,3,40] (fun f0 o0 i0 wr=>∃ (k:Nat) (bb:Bool) (F:Int),k<=n2/\i0=.int .i64 k/\f0=.int .i64 F/\o0=.bool bb/\Hid (F=(ws.take k).foldl cstep (cfl0 n3 n4 clean))/\Hid (bb=(cok0 n2 n3 n4 && (ws.take k).all fun u=>mq u.qos))/\Below w.heap.size w wr) (fun _ _ i0 _=>n2 - (intOf i0).toNat)
   case atStart=>exact⟨0,_,_,Nat.zero_le _,rfl,rfl,rfl,rfl,by show _=_;simp[cok0,l2],by go_grown⟩
   case round =>
    obtain⟨k,bb,F,hk,rfl,rfl,rfl,HF,HO,hbel⟩:=hrel
    by_cases hkn:k=n2
    ·subst hkn
     have e1:ws.take k=ws:=List.take_of_length_le (by omega)
     have HB:=zh hbel
     clear hbel
     go_wp2
     go_returns
     rw[e1]at HF HO
     exact⟨by rw[uh HF,uh HO,<- hn];rfl,uh HB⟩
    ·have hlt:k < ws.length:=by omega
     obtain⟨u,hu⟩:∃ u,ws[k]?=some u:=⟨_,List.getElem?_eq_getElem hlt⟩
     have e1:ws.take (k+1)=ws.take k++[u]:=by rw[List.take_add_one,hu];rfl
     obtain⟨b,off,ha,t0,t1,t2,t3,t4⟩:=((uh HR).below (hbel)).will k u hu
     simp only at ha
     subst ha
     have hF:Hid (cstep F u=(ws.take (k+1)).foldl cstep (cfl0 n3 n4 clean)):=by show _=_;rw[e1,List.foldl_append,uh HF];rfl
     have hO:(cok0 n2 n3 n4 && (ws.take (k+1)).all fun u=>mq u.qos)=(bb && mq u.qos):=by rw[e1,List.all_append,uh HO];simp[Bool.and_assoc]
     have HO2:=zh hO
     clear hO
     have HB2:Hid (Below w.heap.size w (wr.alloc (.cells #[.string u.topic,.string u.payload,.int .i64 u.qos,.bool u.retain,u.props.val] 120)).drew):=(hbel.alloc hbel.size _).drew
     cases bb
     ·go_wp2_with fail
      refine wp_region_noPanic ?_
      refine wp_region_held_drew (S:=(fun w'=>w'.cell? ⟨wr.heap.size,3,none⟩=some (.bool u.retain)/\w'.cell? ⟨wr.heap.size,2,none⟩=some (.int .i64 u.qos))) (by kernel_rfl) (by simp) (fun hHeld=>?_)
      refine rtk 0 (h:=?_)
      refine rtk 1 (h:=?_)
      refine rtk 2 (h:=?_)
      refine rtk 5 (h:=?_)
      refine rtk 6 (h:=?_)
      refine rtk 7 (h:=?_)
      refine rcl 3 (h:=fun K hK=>?_)
      go_simp
      refine (flag_is _ _ _).mono ?_
      rintro e w2 ⟨rfl,hw2⟩
      obtain rfl:=hw2.symm
      clear hw2
      refine hK.out _ _ (by simp) (fun hHeld=>?_)
      clear hK K
      refine rtk 4 (h:=?_)
      refine rtk 8 (h:=?_)
      refine rtk 9 (h:=?_)
      refine rcl 10 (h:=fun K hK=>?_)
      go_simp
      refine hK.out _ _ (by simp) (fun hHeld=>?_)
      clear hK K
      refine wpAnyH_done (by kernel_rfl) ?_ _
      refine NoPanic.normal ?_
      go_wp2
      go_roundw
      case rel=>exact⟨k+1,false,_,by omega,by go_num,rfl,rfl,hF,by show _=_;rw[uh HO2];rfl,uh HB2⟩
      case measure=>simp[intOf];omega
     ·go_wp2_with fail
      refine (mayQoS_is u.qos _ rfl _).mono ?_
      rintro e w1 ⟨rfl,hw1⟩
      obtain rfl:=hw1.symm
      clear hw1
      go_wp2_with fail
      refine wp_region_noPanic ?_
      refine wp_region_held_drew (S:=(fun w'=>w'.cell? ⟨wr.heap.size,3,none⟩=some (.bool u.retain)/\w'.cell? ⟨wr.heap.size,2,none⟩=some (.int .i64 u.qos))) (by kernel_rfl) (by simp) (fun hHeld=>?_)
      refine rtk 0 (h:=?_)
      refine rtk 1 (h:=?_)
      refine rtk 2 (h:=?_)
      refine rtk 5 (h:=?_)
      refine rtk 6 (h:=?_)
      refine rtk 7 (h:=?_)
      refine rcl 3 (h:=fun K hK=>?_)
      go_simp
      refine (flag_is _ _ _).mono ?_
      rintro e w2 ⟨rfl,hw2⟩
      obtain rfl:=hw2.symm
      clear hw2
      refine hK.out _ _ (by simp) (fun hHeld=>?_)
      clear hK K
      refine rtk 4 (h:=?_)
      refine rtk 8 (h:=?_)
      refine rtk 9 (h:=?_)
      refine rcl 10 (h:=fun K hK=>?_)
      go_simp
      refine hK.out _ _ (by simp) (fun hHeld=>?_)
      clear hK K
      refine wpAnyH_done (by kernel_rfl) ?_ _
      refine NoPanic.normal ?_
      go_wp2
      go_roundw
      case rel=>exact⟨k+1,mq u.qos,_,by omega,by go_num,rfl,rfl,hF,by show _=_;rw[uh HO2];rfl,uh HB2⟩
      case measure=>simp[intOf];omega
 ·go_enter Tryz.func56,Tryz.ntmps56
  go_wp2_with fail
  refine wp_region_noPanic ?_
  refine wp_region_held_drew (S:=(fun w'=>w'.cell? ⟨w.heap.size,12,none⟩=some (.slice a3 n3 c3)/\w'.cell? ⟨w.heap.size,13,none⟩=some (.slice a4 n4 c4)/\w'.cell? ⟨w.heap.size,9,none⟩=some (.bool clean))) (by kernel_rfl) (by simp) (fun hHeld=>?_)
  refine rtk 0 (h:=?_)
  refine rtk 1 (h:=?_)
  refine rtk 2 (h:=?_)
  refine rtk 3 (h:=?_)
  refine rtk 5 (h:=?_)
  refine rtk 6 (h:=?_)
  refine rtk 7 (h:=?_)
  refine rtk 8 (h:=?_)
  refine rtk 11 (h:=?_)
  refine rtk 12 (h:=?_)
  refine rcl 4 (h:=fun K hK=>?_)
  go_simp
  refine (flag_is _ _ _).mono ?_
  rintro e w2 ⟨rfl,hw2⟩
  obtain rfl:=hw2.symm
  clear hw2
  refine hK.out _ _ (by simp) (fun hHeld=>?_)
  clear hK K
  refine rcl 9 (h:=fun K hK=>?_)
  go_simp
  refine (flag_is _ _ _).mono ?_
  rintro e w2 ⟨rfl,hw2⟩
  obtain rfl:=hw2.symm
  clear hw2
  refine hK.out _ _ (by simp) (fun hHeld=>?_)
  clear hK K
  refine rtk 10 (h:=?_)
  refine rcl 13 (h:=fun K hK=>?_)
  go_simp
  refine (flag_is _ _ _).mono ?_
  rintro e w2 ⟨rfl,hw2⟩
  obtain rfl:=hw2.symm
  clear hw2
  refine hK.out _ _ (by simp) (fun hHeld=>?_)
  clear hK K
  refine rtk 14 (h:=?_)
  refine rcl 15 (h:=fun K hK=>?_)
  go_simp
  refine hK.out _ _ (by simp) (fun hHeld=>?_)
  clear hK K
  refine wpAnyH_done (by kernel_rfl) ?_ _
  refine NoPanic.normal ?_
  go_wp2
  go_loopw [2,3,40] (fun f0 o0 i0 wr=>∃ (k:Nat) (bb:Bool) (F:Int),k<=n2/\i0=.int .i64 k/\f0=.int .i64 F/\o0=.bool bb/\Hid (F=(ws.take k).foldl cstep (cfl0 n3 n4 clean))/\Hid (bb=(cok0 n2 n3 n4 && (ws.take k).all fun u=>mq u.qos))/\Below w.heap.size w wr) (fun _ _ i0 _=>n2 - (intOf i0).toNat)
  case atStart=>exact⟨0,_,_,Nat.zero_le _,rfl,rfl,rfl,rfl,by show _=_;simp[cok0,l1],by go_grown⟩
  case round =>
   obtain⟨k,bb,F,hk,rfl,rfl,rfl,HF,HO,hbel⟩:=hrel
   by_cases hkn:k=n2
   ·subst hkn
    have e1:ws.take k=ws:=List.take_of_length_le (by omega)
    have HB:=zh hbel
    clear hbel
    go_wp2
    go_returns
    rw[e1]at HF HO
    exact⟨by rw[uh HF,uh HO,<- hn];rfl,uh HB⟩
   ·have hlt:k < ws.length:=by omega
    obtain⟨u,hu⟩:∃ u,ws[k]?=some u:=⟨_,List.getElem?_eq_getElem hlt⟩
    have e1:ws.take (k+1)=ws.take k++[u]:=by rw[List.take_add_one,hu];rfl
    obtain⟨b,off,ha,t0,t1,t2,t3,t4⟩:=((uh HR).below (hbel)).will k u hu
    simp only at ha
    subst ha
    have hF:Hid (cstep F u=(ws.take (k+1)).foldl cstep (cfl0 n3 n4 clean)):=by show _=_;rw[e1,List.foldl_append,uh HF];rfl
    have hO:(cok0 n2 n3 n4 && (ws.take (k+1)).all fun u=>mq u.qos)=(bb && mq u.qos):=by rw[e1,List.all_append,uh HO];simp[Bool.and_assoc]
    have HO2:=zh hO
    clear hO
    have HB2:Hid (Below w.heap.size w (wr.alloc (.cells #[.string u.topic,.string u.payload,.int .i64 u.qos,.bool u.retain,u.props.val] 120)).drew):=(hbel.alloc hbel.size _).drew
    cases bb
    ·go_wp2_with fail
     refine wp_region_noPanic ?_
     refine wp_region_held_drew (S:=(fun w'=>w'.cell? ⟨wr.heap.size,3,none⟩=some (.bool u.retain)/\w'.cell? ⟨wr.heap.size,2,none⟩=some (.int .i64 u.qos))) (by kernel_rfl) (by simp) (fun hHeld=>?_)
     refine rtk 0 (h:=?_)
     refine rtk 1 (h:=?_)
     refine rtk 2 (h:=?_)
     refine rtk 5 (h:=?_)
     refine rtk 6 (h:=?_)
     refine rtk 7 (h:=?_)
     refine rcl 3 (h:=fun K hK=>?_)
     go_simp
     refine (flag_is _ _ _).mono ?_
     rintro e w2 ⟨rfl,hw2⟩
     obtain rfl:=hw2.symm
     clear hw2
     refine hK.out _ _ (by simp) (fun hHeld=>?_)
     clear hK K
     refine rtk 4 (h:=?_)
     refine rtk 8 (h:=?_)
     refine rtk 9 (h:=?_)
     refine rcl 10 (h:=fun K hK=>?_)
     go_simp
     refine hK.out _ _ (by simp) (fun hHeld=>?_)
     clear hK K
     refine wpAnyH_done (by kernel_rfl) ?_ _
     refine NoPanic.normal ?_
     go_wp2
     go_roundw
     case rel=>exact⟨k+1,false,_,by omega,by go_num,rfl,rfl,hF,by show _=_;rw[uh HO2];rfl,uh HB2⟩
     case measure=>simp[intOf];omega
    ·go_wp2_with fail
     refine (mayQoS_is u.qos _ rfl _).mono ?_
     rintro e w1 ⟨rfl,hw1⟩
     obtain rfl:=hw1.symm
     clear hw1
     go_wp2_with fail
     refine wp_region_noPanic ?_
     refine wp_region_held_drew (S:=(fun w'=>w'.cell? ⟨wr.heap.size,3,none⟩=some (.bool u.retain)/\w'.cell? ⟨wr.heap.size,2,none⟩=some (.int .i64 u.qos))) (by kernel_rfl) (by simp) (fun hHeld=>?_)
     refine rtk 0 (h:=?_)
     refine rtk 1 (h:=?_)
     refine rtk 2 (h:=?_)
     refine rtk 5 (h:=?_)
     refine rtk 6 (h:=?_)
     refine rtk 7 (h:=?_)
     refine rcl 3 (h:=fun K hK=>?_)
     go_simp
     refine (flag_is _ _ _).mono ?_
     rintro e w2 ⟨rfl,hw2⟩
     obtain rfl:=hw2.symm
     clear hw2
     refine hK.out _ _ (by simp) (fun hHeld=>?_)
     clear hK K
     refine rtk 4 (h:=?_)
     refine rtk 8 (h:=?_)
     refine rtk 9 (h:=?_)
     refine rcl 10 (h:=fun K hK=>?_)
     go_simp
     refine hK.out _ _ (by simp) (fun hHeld=>?_)
     clear hK K
     refine wpAnyH_done (by kernel_rfl) ?_ _
     refine NoPanic.normal ?_
     go_wp2
     go_roundw
     case rel=>exact⟨k+1,mq u.qos,_,by omega,by go_num,rfl,rfl,hF,by show _=_;rw[uh HO2];rfl,uh HB2⟩
     case measure=>simp[intOf];omega
theorem infoSub:(Tryz.prog.info? 122).map (fun i=>(i.zero,i.size,i.bytes))=some (some (.agg #[.string ⟨#[]⟩,.int .i64 0,.bool false,.bool false,.int .i64 0]),5,40):=by kernel_rfl
theorem infoInt:(Tryz.prog.info? 3).map (fun i=>(i.zero,i.size,i.bytes))=some (some (.int .i64 0),1,8):=by kernel_rfl
theorem infoStr:(Tryz.prog.info? 9).map (fun i=>(i.zero,i.size,i.bytes))=some (some (.string ⟨#[]⟩),1,16):=by kernel_rfl
def Sb.cells (s:Sb):List Value:=[.string s.filter,.int .i64 s.qos,.bool s.nolocal,.bool s.aspub,.int .i64 s.handling]
def scs (d:List Sb):List Value:=d.flatMap Sb.cells
theorem scs_app (d:List Sb) (s:Sb):scs (d++[s])=scs d++s.cells:=by unfold scs;simp
theorem five_cell (w:World) (a b c d e:Value) (t:TypeId):∀ j u,[a,b,c,d,e][j]?=some u->(w.alloc (.cells #[a,b,c,d,e] t)).cell? ((⟨w.heap.size,0,none⟩:Addr).add j)=some u:=by
 intro j u hj
 match j,hj with
 | 0,hj=>simp at hj;subst hj;simp[Addr.add]
 | 1,hj=>simp at hj;subst hj;simp[Addr.add]
 | 2,hj=>simp at hj;subst hj;simp[Addr.add]
 | 3,hj=>simp at hj;subst hj;simp[Addr.add]
 | 4,hj=>simp at hj;subst hj;simp[Addr.add]
theorem one_str (s:ByteArray):∀ u ∈ [Value.string s],u.oneCell'=true:=by
 intro u hu;simp at hu;subst hu;rfl
theorem five_one (s:Sb):∀ u ∈ s.cells,u.oneCell'=true:=by
 intro u hu
 simp only[Sb.cells,List.mem_cons,List.not_mem_nil,or_false]at hu
 rcases hu with rfl | rfl | rfl | rfl | rfl <;> rfl
def Listcodes (w0:World) (R:Nat) (p:Pkv) (st:Option (List Int)) (w:World) (e:Ending) (w':World):Prop :=
 e=.returned (.tuple #[])/\∃ (t:Sl) (d:List Int) (st':Option (List Int)),Pk w' R { p with codes:=t }/\Hid (w'.ownsRow w.heap.size 3 1 t.val d.length (d.map (Value.int .i64)))/\Stp (list? one?) st d st'/\RS w0 w' R st'/\BX R isAny w w'
theorem list_codes (R:Nat) (p:Pkv) (st:Option (List Int)) (w0 w:World) (h:RS w0 w R st) (hp:Pk w R p) (hF:p.codes=⟨none,0,0⟩) (hl:∀ l,st=some l->l.length<=65536) (h8:p.kind≠8) (h10:p.kind≠10):Calls Tryz.prog 92 #[.pointer (some ⟨R,0,none⟩)] w (Listcodes w0 R p st w):=by
 obtain⟨i0,hi,hz0,hz1,hz2⟩:=info_parts infoInt
 have hlt:=h.lt
 have HW0:=h.keep
 have HP:=zh hp
 have HS:=zh h
 have HL:=zh hl
 have HF:=zh hF
 clear hp h hl hF
 go_enter Tryz.func92,Tryz.ntmps92
 go_wp2
 go_loopw [3] (fun c0 wr=>∃ (d:List Int) (st1:Option (List Int)) (t:Sl) (k:Nat),c0=.int .i64 k/\k<=65536/\Hid (d.length=k)/\Hid (∀ l,st1=some l->k+l.length<=65536)/\Hid (Pk wr R { p with codes:=t })/\Hid (wr.ownsRow w.heap.size 3 1 t.val k (d.map (Value.int .i64)))/\Hid (Acc one? st d st1)/\Hid (RS w0 wr R st1)/\Hid (BX R isAny w wr)) (fun _ wr=>mlen R wr)
 case atStart =>
  refine⟨[],st,⟨none,0,0⟩,0,rfl,Nat.zero_le _,rfl,fun l hl=>by have:=(uh HL) l hl;omega,?_,World.ownsRow_nil _ _ _ _,Acc.start _ _,uh HS,BX.refl _ _ _⟩
  show Pk _ _ _
  have e:{ p with codes:=⟨none,0,0⟩ }=p:=by rw[<- uh HF]
  rw[e]
  exact uh HP
 case round =>
  obtain⟨d,st1,⟨ta,tn,tc⟩,k,rfl,hk,HD,HB,HPk,HOwn,HAcc,HRS,HBX⟩:=hrel
  obtain⟨ao,m,cap,c19,⟨g1,g2⟩,gl⟩:=(uh HRS).rest
  unfold maxLen at g2
  have c0:=(uh HPk).kind
  simp only at c0
  have cF:wr.cell? ⟨R,18,none⟩=some (.slice ta tn tc):=(uh HPk).codes
  skip
  rcases (uh HRS).err with⟨l,rfl,c20⟩ | ⟨rfl,ty,x,c20⟩
  ·have hm:=gl l rfl
   clear gl
   by_cases hm0:m=0
   ·subst hm0
    obtain rfl:l=[]:=List.length_eq_zero_iff.1 hm
    go_wp2_with fail
    refine (mayCount_any k _).mono ?_
    rintro e wa ⟨rfl,hwa⟩
    obtain rfl:=hwa.symm
    clear hwa
    go_wp2_with fail
    refine (must_any R _ (some []) w0 wr (uh HRS)).mono ?_
    rintro e wb ⟨rfl,h2,hx2⟩
    have H2:=zh h2
    have HX2:=zh hx2
    clear h2 hx2
    go_wp2
    go_end0
    refine⟨rfl,⟨ta,tn,tc⟩,d,_,(uh HPk).bx (uh HX2),?_,?_,uh H2,(uh HBX).trans (uh HX2).any⟩
    ·show World.ownsRow _ _ _ _ _ _ _
     rw[uh HD]
     exact owns_bx (uh HOwn) (uh HX2) hlt
    ·refine ((uh HAcc).done (.inr rfl)).bind ((?_:Stp (mustR (mc d.length)) (some []) () (if mc k then (some []) else none)).bind (Stp.pure _ _))
     rw[uh HD]
     exact Stp.must _ _
   ·have hl0:l≠[]:=fun e=>hm0 (by rw[<- hm,e];rfl)
    have hbd:=bel_drew wr
    obtain⟨X,hXd⟩:∃ X:Nat->Prop,X=fun g=>g=R\/some g=(Value.slice ta tn tc).ownBlock:=⟨_,rfl⟩
    have HRSd:Hid (RSX w0 wr.drew R X (some l)):=by
     subst hXd
     exact ((uh HRS).below hbd).good _ ⟨.inl rfl,fun g hg=>by
      rcases hg with rfl | hg
      ·exact Nat.lt_of_lt_of_le hlt (uh HBX).size
      ·exact ((uh HOwn).lt g hg.symm).2⟩
    have HPd:=zh ((uh HPk).below hbd)
    have HBXd:Hid (BX R isAny w wr.drew):=(uh HBX).trans (BX.of_below hbd (uh HRS).lt)
    have HOd:Hid (wr.drew.ownsRow w.heap.size 3 1 (.slice ta tn tc) k (d.map (Value.int .i64))):=owns_below (uh HOwn) hbd
    clear hbd
    go_wp2_with fail
    refine wp_region_noPanic ?_
    refine wp_region_held_drew (S:=fun _=>True) (by kernel_rfl) trivial (fun hHeld=>?_)
    refine rtk 0 (h:=?_)
    refine rtk 1 (h:=?_)
    refine rtk 2 (h:=?_)
    refine rtk 3 (h:=?_)
    refine rtk 5 (h:=?_)
    refine wpAnyH_ready (rs:=[4,6]) (by kernel_rfl) (by simp) ?_
    refine rac (h:=fun K hK=>?ra) (hs:=(rac (h:=fun K hK=>?rb) (hs:=AllReadyH.nil)))
    case' ra =>
     go_simp
     refine hK.out _ _ trivial (fun hHeld=>?_)
     clear hK K
     refine rcl 6 (h:=fun K hK=>?_)
     go_simp
     refine (one_anyX R X (some l) w0 _ (uh HRSd)).mono ?_
     rintro e w2 ⟨x,st2,rfl,-,hs2,h2,hx2⟩
     have cF2:w2.cell? ⟨R,18,none⟩=some (.slice ta tn tc):=(hx2.cell 18 (by unfold isRE;omega)).trans cF
     have hs2l:w.heap.size<=w2.heap.size:=Nat.le_trans (uh HBX).size hx2.size
     have HP2:=zh ((uh HPd).bx hx2)
     have HRS2:=zh h2
     have HST2:=zh hs2
     have HBX2:Hid (BX R isAny w w2):=(uh HBXd).trans hx2.any
     have HO2:Hid (w2.ownsRow w.heap.size 3 1 (.slice ta tn tc) k (d.map (Value.int .i64))):=owns_bx (uh HOd) hx2 hlt
     have hR2:R < w2.heap.size:=Nat.lt_of_lt_of_le hlt hs2l
     have cF3:(w2.alloc (.cells #[.int .i64 x] 3)).cell? ⟨R,18,none⟩=some (.slice ta tn tc):=(World.cell?_alloc_lt _ _ ⟨R,18,none⟩ hR2).trans cF2
     clear hx2 h2 hs2
     refine hK.out _ _ trivial (fun hHeld=>?_)
     clear hK K
     refine rcl 7 (h:=fun K hK=>?_)
     go_simp
     refine hK.out _ _ trivial (fun hHeld=>?_)
     clear hK K
    case' rb =>
     go_simp
     refine (one_anyX R X (some l) w0 _ (uh HRSd)).mono ?_
     rintro e w2 ⟨x,st2,rfl,-,hs2,h2,hx2⟩
     have cF2:w2.cell? ⟨R,18,none⟩=some (.slice ta tn tc):=(hx2.cell 18 (by unfold isRE;omega)).trans cF
     have hs2l:w.heap.size<=w2.heap.size:=Nat.le_trans (uh HBX).size hx2.size
     have HP2:=zh ((uh HPd).bx hx2)
     have HRS2:=zh h2
     have HST2:=zh hs2
     have HBX2:Hid (BX R isAny w w2):=(uh HBXd).trans hx2.any
     have HO2:Hid (w2.ownsRow w.heap.size 3 1 (.slice ta tn tc) k (d.map (Value.int .i64))):=owns_bx (uh HOd) hx2 hlt
     have hR2:R < w2.heap.size:=Nat.lt_of_lt_of_le hlt hs2l
     have cF3:(w2.alloc (.cells #[.int .i64 x] 3)).cell? ⟨R,18,none⟩=some (.slice ta tn tc):=(World.cell?_alloc_lt _ _ ⟨R,18,none⟩ hR2).trans cF2
     clear hx2 h2 hs2
     refine hK.out _ _ trivial (fun hHeld=>?_)
     clear hK K
     refine wpAnyH_ready (rs:=[4,7]) (by kernel_rfl) (by simp) ?_
     refine rac (h:=fun K hK=>?rc) (hs:=(rac (h:=fun K hK=>?rd) (hs:=AllReadyH.nil)))
     case' rc =>
      go_simp
      refine hK.out _ _ trivial (fun hHeld=>?_)
      clear hK K
      refine rcl 7 (h:=fun K hK=>?_)
      go_simp
      refine hK.out _ _ trivial (fun hHeld=>?_)
      clear hK K
     case' rd =>
      go_simp
      refine hK.out _ _ trivial (fun hHeld=>?_)
      clear hK K
      refine rcl 4 (h:=fun K hK=>?_)
      go_simp
      refine hK.out _ _ trivial (fun hHeld=>?_)
      clear hK K
    all_goals (
     refine rcl 8 (h:=fun K hK=>?_)
     refine step_append_run (Z:=fun v' w'=>w'.ownsRow w.heap.size 3 1 v' (k+1) ((d.map (Value.int .i64))++[.int .i64 x])/\(w2.alloc (.cells #[.int .i64 x] 3)).grownBy w' (Value.slice ta tn tc).ownBlock) rfl _ _ 43 rfl (.slice ta tn tc) (.slice (some ⟨w2.heap.size,0,none⟩) 1 1) rfl rfl ?hr ?_
     case hr =>
      obtain⟨v4,w4,h1,h2,h3,_⟩:=run_append_own (P:=Tryz.prog) (w:=(w2.alloc (.cells #[.int .i64 x] 3))) w.heap.size 43 43 3 i0 _ 1 8 Tryz.underlying43 hi hz0 hz1 hz2 rfl (by decide) (.slice ta tn tc) k _ ((uh HO2).alloc _) ⟨w2.heap.size,0,none⟩ 1 1 [.int .i64 x] rfl (one_cell _ _ _) (one_one _ _) (by unfold maxLen;omega) (by omega) (by simp;omega)
      exact⟨v4,w4,h1,h2,h3⟩
     rintro v4 w4 ⟨hO4,hg4⟩
     have hrow:∀ g,(Value.slice ta tn tc).ownBlock=some g->w.heap.size<=g/\g < wr.heap.size:=fun g hg=>(uh HOwn).lt g hg
     have hrR:(Value.slice ta tn tc).ownBlock≠some R:=fun e=>by have:=(hrow R e).1;omega
     have HP4:Hid (Pk w4 R { p with codes:=⟨ta,tn,tc⟩ }):=((uh HP2).below (bal _ _)).grown hg4 hrR
     have h0w:w0.heap.size<=w.heap.size:=HW0.size
     have HRS4:Hid (RSX w0 w4 R X st2):=((uh HRS2).below (bal _ _)).grown hg4 (fun g hg=>by rw[hXd];exact .inr hg.symm) hrR (fun g hg=>Nat.le_trans h0w (hrow g hg).1)
     have HBX4:Hid (BX R isAny w w4):=((uh HBX2).trans (BX.of_below (bal _ _) hR2)).grown hg4 (fun g hg=>(hrow g hg).1) hlt
     obtain⟨⟨sa,sn,sc⟩,hv4,_⟩:=owns_sl hO4
     have hv4:v4=.slice sa sn sc:=hv4
     subst hv4
     have HO4:=zh hO4
     have cF4:w4.cell? ⟨R,18,none⟩=some (.slice ta tn tc):=(uh HP4).codes
     have fF4:w4.frozen? ⟨R,18,none⟩=false:=(uh HP4).codes_f
     clear hO4 hg4 hrow cF2 cF3 HP2 HRS2 HBX2
     refine hK.out _ _ trivial (fun hHeld=>?_)
     clear hK K
     simp only[Act.put,List.setIfInBounds_toArray,List.set_cons_zero,List.set_cons_succ]
     refine rtk 9 (h:=?_)
     refine rtk 10 (h:=?_)
     refine rcl 11 (h:=fun K hK=>?_)
     go_simp
     refine hK.out _ _ trivial (fun hHeld=>?_)
     clear hK K
     refine wpAnyH_done (by kernel_rfl) ?_ _
     refine NoPanic.normal ?_
     have HRS5:Hid (RS w0 (w4.setCell ⟨R,18,none⟩ (.slice sa sn sc)) R st2):=((uh HRS4).less (fun g=>g=R) rfl (fun g hg=>by rw[hXd];exact .inl hg)).set 18 _ (by decide)
     have HP5:Hid (Pk (w4.setCell ⟨R,18,none⟩ (.slice sa sn sc)) R { p with codes:=⟨sa,sn,sc⟩ }):=(uh HP4).set_codes ⟨sa,sn,sc⟩
     have HBX5:Hid (BX R isAny w (w4.setCell ⟨R,18,none⟩ (.slice sa sn sc))):=(uh HBX4).set 18 _ trivial
     have HO5:Hid ((w4.setCell ⟨R,18,none⟩ (.slice sa sn sc)).ownsRow w.heap.size 3 1 (.slice sa sn sc) (k+1) ((d++[x]).map (Value.int .i64))):=by
      show World.ownsRow _ _ _ _ _ _ _
      rw[show ((d++[x]).map (Value.int .i64))=(d.map (Value.int .i64))++[.int .i64 x] from by simp]
      exact owns_bx (uh HO4) ((BX.refl R isAny w4).set 18 _ trivial) hlt
     have HA5:Hid (Acc one? st (d++[x]) st2):=(uh HAcc).step one?_shr (uh HST2) hl0
     have HB5:Hid (∀ l',st2=some l'->(k+1)+l'.length<=65536):=by
      intro l' hl'
      subst hl'
      have h2:=stp_len one?_shr (uh HST2)
      have h3:=(uh HB) l rfl
      omega
     have hM:mlen R (w4.setCell ⟨R,18,none⟩ (.slice sa sn sc)) < mlen R wr:=by
      rw[mlen_some (uh HRS)]
      cases st2 with
      | none=>rw[mlen_none (uh HRS5)];omega
      | some l' =>
       rw[mlen_some (uh HRS5)]
       have:=stp_len one?_shr (uh HST2)
       omega
     have hk1:k+1<=65536:=by
      have h3:=(uh HB) l rfl
      have:=List.length_pos_iff.2 hl0
      omega
     have HD5:Hid ((d++[x]).length=k+1):=by show _=_;rw[List.length_append,uh HD];rfl
     clear HRS4 HP4 HBX4 HO4 cF4 fF4
     go_wp2
     go_roundw
     case rel=>exact⟨d++[x],st2,⟨sa,sn,sc⟩,k+1,by go_num,hk1,HD5,HB5,HP5,HO5,HA5,HRS5,HBX5⟩
     case measure=>exact hM)
  ·clear gl
   go_wp2_with fail
   refine (mayCount_any k _).mono ?_
   rintro e wa ⟨rfl,hwa⟩
   obtain rfl:=hwa.symm
   clear hwa
   go_wp2_with fail
   refine (must_any R _ none w0 wr (uh HRS)).mono ?_
   rintro e wb ⟨rfl,h2,hx2⟩
   have H2:=zh h2
   have HX2:=zh hx2
   clear h2 hx2
   go_wp2
   go_end0
   refine⟨rfl,⟨ta,tn,tc⟩,d,_,(uh HPk).bx (uh HX2),?_,?_,uh H2,(uh HBX).trans (uh HX2).any⟩
   ·show World.ownsRow _ _ _ _ _ _ _
    rw[uh HD]
    exact owns_bx (uh HOwn) (uh HX2) hlt
   ·refine ((uh HAcc).done (.inl rfl)).bind ((?_:Stp (mustR (mc d.length)) none () (if mc k then none else none)).bind (Stp.pure _ _))
    rw[uh HD]
    exact Stp.must _ _
def Listfilters (w0:World) (R:Nat) (p:Pkv) (st:Option (List Int)) (w:World) (e:Ending) (w':World):Prop :=
 e=.returned (.tuple #[])/\∃ (t:Sl) (d:List ByteArray) (st':Option (List Int)),Pk w' R { p with filters:=t }/\Hid (w'.ownsRow w.heap.size 9 1 t.val d.length (d.map Value.string))/\Stp (list? text?) st d st'/\RS w0 w' R st'/\BX R isAny w w'
theorem list_filters (R:Nat) (p:Pkv) (st:Option (List Int)) (w0 w:World) (h:RS w0 w R st) (hp:Pk w R p) (hF:p.filters=⟨none,0,0⟩) (hl:∀ l,st=some l->l.length<=65536) (h10:p.kind=10):Calls Tryz.prog 92 #[.pointer (some ⟨R,0,none⟩)] w (Listfilters w0 R p st w):=by
 obtain⟨i0,hi,hz0,hz1,hz2⟩:=info_parts infoStr
 have hlt:=h.lt
 have HW0:=h.keep
 have HP:=zh hp
 have HS:=zh h
 have HL:=zh hl
 have HF:=zh hF
 clear hp h hl hF
 go_enter Tryz.func92,Tryz.ntmps92
 go_wp2
 go_loopw [3] (fun c0 wr=>∃ (d:List ByteArray) (st1:Option (List Int)) (t:Sl) (k:Nat),c0=.int .i64 k/\k<=65536/\Hid (d.length=k)/\Hid (∀ l,st1=some l->k+l.length<=65536)/\Hid (Pk wr R { p with filters:=t })/\Hid (wr.ownsRow w.heap.size 9 1 t.val k (d.map Value.string))/\Hid (Acc text? st d st1)/\Hid (RS w0 wr R st1)/\Hid (BX R isAny w wr)) (fun _ wr=>mlen R wr)
 case atStart =>
  refine⟨[],st,⟨none,0,0⟩,0,rfl,Nat.zero_le _,rfl,fun l hl=>by have:=(uh HL) l hl;omega,?_,World.ownsRow_nil _ _ _ _,Acc.start _ _,uh HS,BX.refl _ _ _⟩
  show Pk _ _ _
  have e:{ p with filters:=⟨none,0,0⟩ }=p:=by rw[<- uh HF]
  rw[e]
  exact uh HP
 case round =>
  obtain⟨d,st1,⟨ta,tn,tc⟩,k,rfl,hk,HD,HB,HPk,HOwn,HAcc,HRS,HBX⟩:=hrel
  obtain⟨ao,m,cap,c19,⟨g1,g2⟩,gl⟩:=(uh HRS).rest
  unfold maxLen at g2
  have c0:=(uh HPk).kind
  simp only at c0
  have cF:wr.cell? ⟨R,17,none⟩=some (.slice ta tn tc):=(uh HPk).filters
  rw[h10]at c0
  rcases (uh HRS).err with⟨l,rfl,c20⟩ | ⟨rfl,ty,x,c20⟩
  ·have hm:=gl l rfl
   clear gl
   by_cases hm0:m=0
   ·subst hm0
    obtain rfl:l=[]:=List.length_eq_zero_iff.1 hm
    go_wp2_with fail
    refine (mayCount_any k _).mono ?_
    rintro e wa ⟨rfl,hwa⟩
    obtain rfl:=hwa.symm
    clear hwa
    go_wp2_with fail
    refine (must_any R _ (some []) w0 wr (uh HRS)).mono ?_
    rintro e wb ⟨rfl,h2,hx2⟩
    have H2:=zh h2
    have HX2:=zh hx2
    clear h2 hx2
    go_wp2
    go_end0
    refine⟨rfl,⟨ta,tn,tc⟩,d,_,(uh HPk).bx (uh HX2),?_,?_,uh H2,(uh HBX).trans (uh HX2).any⟩
    ·show World.ownsRow _ _ _ _ _ _ _
     rw[uh HD]
     exact owns_bx (uh HOwn) (uh HX2) hlt
    ·refine ((uh HAcc).done (.inr rfl)).bind ((?_:Stp (mustR (mc d.length)) (some []) () (if mc k then (some []) else none)).bind (Stp.pure _ _))
     rw[uh HD]
     exact Stp.must _ _
   ·have hl0:l≠[]:=fun e=>hm0 (by rw[<- hm,e];rfl)
    have hbd:=bel_drew wr
    obtain⟨X,hXd⟩:∃ X:Nat->Prop,X=fun g=>g=R\/some g=(Value.slice ta tn tc).ownBlock:=⟨_,rfl⟩
    have HRSd:Hid (RSX w0 wr.drew R X (some l)):=by
     subst hXd
     exact ((uh HRS).below hbd).good _ ⟨.inl rfl,fun g hg=>by
      rcases hg with rfl | hg
      ·exact Nat.lt_of_lt_of_le hlt (uh HBX).size
      ·exact ((uh HOwn).lt g hg.symm).2⟩
    have HPd:=zh ((uh HPk).below hbd)
    have HBXd:Hid (BX R isAny w wr.drew):=(uh HBX).trans (BX.of_below hbd (uh HRS).lt)
    have HOd:Hid (wr.drew.ownsRow w.heap.size 9 1 (.slice ta tn tc) k (d.map Value.string)):=owns_below (uh HOwn) hbd
    clear hbd
    go_wp2_with fail
    refine wp_region_noPanic ?_
    refine wp_region_held_drew (S:=fun _=>True) (by kernel_rfl) trivial (fun hHeld=>?_)
    refine rtk 0 (h:=?_)
    refine rtk 1 (h:=?_)
    refine rtk 2 (h:=?_)
    refine rtk 3 (h:=?_)
    refine rtk 5 (h:=?_)
    refine wpAnyH_ready (rs:=[4,6]) (by kernel_rfl) (by simp) ?_
    refine rac (h:=fun K hK=>?ra) (hs:=(rac (h:=fun K hK=>?rb) (hs:=AllReadyH.nil)))
    case' ra =>
     go_simp
     refine hK.out _ _ trivial (fun hHeld=>?_)
     clear hK K
     refine rcl 6 (h:=fun K hK=>?_)
     go_simp
     refine (text_anyX R X (some l) w0 _ (uh HRSd)).mono ?_
     rintro e w2 ⟨x,st2,rfl,-,hs2,h2,hx2⟩
     have cF2:w2.cell? ⟨R,17,none⟩=some (.slice ta tn tc):=(hx2.cell 17 (by unfold isRE;omega)).trans cF
     have hs2l:w.heap.size<=w2.heap.size:=Nat.le_trans (uh HBX).size hx2.size
     have HP2:=zh ((uh HPd).bx hx2)
     have HRS2:=zh h2
     have HST2:=zh hs2
     have HBX2:Hid (BX R isAny w w2):=(uh HBXd).trans hx2.any
     have HO2:Hid (w2.ownsRow w.heap.size 9 1 (.slice ta tn tc) k (d.map Value.string)):=owns_bx (uh HOd) hx2 hlt
     have hR2:R < w2.heap.size:=Nat.lt_of_lt_of_le hlt hs2l
     have cF3:(w2.alloc (.cells #[.string x] 9)).cell? ⟨R,17,none⟩=some (.slice ta tn tc):=(World.cell?_alloc_lt _ _ ⟨R,17,none⟩ hR2).trans cF2
     clear hx2 h2 hs2
     refine hK.out _ _ trivial (fun hHeld=>?_)
     clear hK K
     refine rcl 7 (h:=fun K hK=>?_)
     go_simp
     refine hK.out _ _ trivial (fun hHeld=>?_)
     clear hK K
    case' rb =>
     go_simp
     refine (text_anyX R X (some l) w0 _ (uh HRSd)).mono ?_
     rintro e w2 ⟨x,st2,rfl,-,hs2,h2,hx2⟩
     have cF2:w2.cell? ⟨R,17,none⟩=some (.slice ta tn tc):=(hx2.cell 17 (by unfold isRE;omega)).trans cF
     have hs2l:w.heap.size<=w2.heap.size:=Nat.le_trans (uh HBX).size hx2.size
     have HP2:=zh ((uh HPd).bx hx2)
     have HRS2:=zh h2
     have HST2:=zh hs2
     have HBX2:Hid (BX R isAny w w2):=(uh HBXd).trans hx2.any
     have HO2:Hid (w2.ownsRow w.heap.size 9 1 (.slice ta tn tc) k (d.map Value.string)):=owns_bx (uh HOd) hx2 hlt
     have hR2:R < w2.heap.size:=Nat.lt_of_lt_of_le hlt hs2l
     have cF3:(w2.alloc (.cells #[.string x] 9)).cell? ⟨R,17,none⟩=some (.slice ta tn tc):=(World.cell?_alloc_lt _ _ ⟨R,17,none⟩ hR2).trans cF2
     clear hx2 h2 hs2
     refine hK.out _ _ trivial (fun hHeld=>?_)
     clear hK K
     refine wpAnyH_ready (rs:=[4,7]) (by kernel_rfl) (by simp) ?_
     refine rac (h:=fun K hK=>?rc) (hs:=(rac (h:=fun K hK=>?rd) (hs:=AllReadyH.nil)))
     case' rc =>
      go_simp
      refine hK.out _ _ trivial (fun hHeld=>?_)
      clear hK K
      refine rcl 7 (h:=fun K hK=>?_)
      go_simp
      refine hK.out _ _ trivial (fun hHeld=>?_)
      clear hK K
     case' rd =>
      go_simp
      refine hK.out _ _ trivial (fun hHeld=>?_)
      clear hK K
      refine rcl 4 (h:=fun K hK=>?_)
      go_simp
      refine hK.out _ _ trivial (fun hHeld=>?_)
      clear hK K
    all_goals (
     refine rcl 8 (h:=fun K hK=>?_)
     refine step_append_run (Z:=fun v' w'=>w'.ownsRow w.heap.size 9 1 v' (k+1) ((d.map Value.string)++[.string x])/\(w2.alloc (.cells #[.string x] 9)).grownBy w' (Value.slice ta tn tc).ownBlock) rfl _ _ 41 rfl (.slice ta tn tc) (.slice (some ⟨w2.heap.size,0,none⟩) 1 1) rfl rfl ?hr ?_
     case hr =>
      obtain⟨v4,w4,h1,h2,h3,_⟩:=run_append_own (P:=Tryz.prog) (w:=(w2.alloc (.cells #[.string x] 9))) w.heap.size 41 41 9 i0 _ 1 16 Tryz.underlying41 hi hz0 hz1 hz2 rfl (by decide) (.slice ta tn tc) k _ ((uh HO2).alloc _) ⟨w2.heap.size,0,none⟩ 1 1 [.string x] rfl (one_cell _ _ _) (one_str _) (by unfold maxLen;omega) (by omega) (by simp;omega)
      exact⟨v4,w4,h1,h2,h3⟩
     rintro v4 w4 ⟨hO4,hg4⟩
     have hrow:∀ g,(Value.slice ta tn tc).ownBlock=some g->w.heap.size<=g/\g < wr.heap.size:=fun g hg=>(uh HOwn).lt g hg
     have hrR:(Value.slice ta tn tc).ownBlock≠some R:=fun e=>by have:=(hrow R e).1;omega
     have HP4:Hid (Pk w4 R { p with filters:=⟨ta,tn,tc⟩ }):=((uh HP2).below (bal _ _)).grown hg4 hrR
     have h0w:w0.heap.size<=w.heap.size:=HW0.size
     have HRS4:Hid (RSX w0 w4 R X st2):=((uh HRS2).below (bal _ _)).grown hg4 (fun g hg=>by rw[hXd];exact .inr hg.symm) hrR (fun g hg=>Nat.le_trans h0w (hrow g hg).1)
     have HBX4:Hid (BX R isAny w w4):=((uh HBX2).trans (BX.of_below (bal _ _) hR2)).grown hg4 (fun g hg=>(hrow g hg).1) hlt
     obtain⟨⟨sa,sn,sc⟩,hv4,_⟩:=owns_sl hO4
     have hv4:v4=.slice sa sn sc:=hv4
     subst hv4
     have HO4:=zh hO4
     have cF4:w4.cell? ⟨R,17,none⟩=some (.slice ta tn tc):=(uh HP4).filters
     have fF4:w4.frozen? ⟨R,17,none⟩=false:=(uh HP4).filters_f
     clear hO4 hg4 hrow cF2 cF3 HP2 HRS2 HBX2
     refine hK.out _ _ trivial (fun hHeld=>?_)
     clear hK K
     simp only[Act.put,List.setIfInBounds_toArray,List.set_cons_zero,List.set_cons_succ]
     refine rtk 9 (h:=?_)
     refine rtk 10 (h:=?_)
     refine rcl 11 (h:=fun K hK=>?_)
     go_simp
     refine hK.out _ _ trivial (fun hHeld=>?_)
     clear hK K
     refine wpAnyH_done (by kernel_rfl) ?_ _
     refine NoPanic.normal ?_
     have HRS5:Hid (RS w0 (w4.setCell ⟨R,17,none⟩ (.slice sa sn sc)) R st2):=((uh HRS4).less (fun g=>g=R) rfl (fun g hg=>by rw[hXd];exact .inl hg)).set 17 _ (by decide)
     have HP5:Hid (Pk (w4.setCell ⟨R,17,none⟩ (.slice sa sn sc)) R { p with filters:=⟨sa,sn,sc⟩ }):=(uh HP4).set_filters ⟨sa,sn,sc⟩
     have HBX5:Hid (BX R isAny w (w4.setCell ⟨R,17,none⟩ (.slice sa sn sc))):=(uh HBX4).set 17 _ trivial
     have HO5:Hid ((w4.setCell ⟨R,17,none⟩ (.slice sa sn sc)).ownsRow w.heap.size 9 1 (.slice sa sn sc) (k+1) ((d++[x]).map Value.string)):=by
      show World.ownsRow _ _ _ _ _ _ _
      rw[show ((d++[x]).map Value.string)=(d.map Value.string)++[.string x] from by simp]
      exact owns_bx (uh HO4) ((BX.refl R isAny w4).set 17 _ trivial) hlt
     have HA5:Hid (Acc text? st (d++[x]) st2):=(uh HAcc).step text?_shr (uh HST2) hl0
     have HB5:Hid (∀ l',st2=some l'->(k+1)+l'.length<=65536):=by
      intro l' hl'
      subst hl'
      have h2:=stp_len text?_shr (uh HST2)
      have h3:=(uh HB) l rfl
      omega
     have hM:mlen R (w4.setCell ⟨R,17,none⟩ (.slice sa sn sc)) < mlen R wr:=by
      rw[mlen_some (uh HRS)]
      cases st2 with
      | none=>rw[mlen_none (uh HRS5)];omega
      | some l' =>
       rw[mlen_some (uh HRS5)]
       have:=stp_len text?_shr (uh HST2)
       omega
     have hk1:k+1<=65536:=by
      have h3:=(uh HB) l rfl
      have:=List.length_pos_iff.2 hl0
      omega
     have HD5:Hid ((d++[x]).length=k+1):=by show _=_;rw[List.length_append,uh HD];rfl
     clear HRS4 HP4 HBX4 HO4 cF4 fF4
     go_wp2
     go_roundw
     case rel=>exact⟨d++[x],st2,⟨sa,sn,sc⟩,k+1,by go_num,hk1,HD5,HB5,HP5,HO5,HA5,HRS5,HBX5⟩
     case measure=>exact hM)
  ·clear gl
   go_wp2_with fail
   refine (mayCount_any k _).mono ?_
   rintro e wa ⟨rfl,hwa⟩
   obtain rfl:=hwa.symm
   clear hwa
   go_wp2_with fail
   refine (must_any R _ none w0 wr (uh HRS)).mono ?_
   rintro e wb ⟨rfl,h2,hx2⟩
   have H2:=zh h2
   have HX2:=zh hx2
   clear h2 hx2
   go_wp2
   go_end0
   refine⟨rfl,⟨ta,tn,tc⟩,d,_,(uh HPk).bx (uh HX2),?_,?_,uh H2,(uh HBX).trans (uh HX2).any⟩
   ·show World.ownsRow _ _ _ _ _ _ _
    rw[uh HD]
    exact owns_bx (uh HOwn) (uh HX2) hlt
   ·refine ((uh HAcc).done (.inl rfl)).bind ((?_:Stp (mustR (mc d.length)) none () (if mc k then none else none)).bind (Stp.pure _ _))
    rw[uh HD]
    exact Stp.must _ _
def Listsubs (w0:World) (R:Nat) (p:Pkv) (st:Option (List Int)) (w:World) (e:Ending) (w':World):Prop :=
 e=.returned (.tuple #[])/\∃ (t:Sl) (d:List Sb) (st':Option (List Int)),Pk w' R { p with subs:=t }/\Hid (w'.ownsRow w.heap.size 122 5 t.val d.length (scs d))/\Stp (list? sub?) st d st'/\RS w0 w' R st'/\BX R isAny w w'
theorem list_subs (R:Nat) (p:Pkv) (st:Option (List Int)) (w0 w:World) (h:RS w0 w R st) (hp:Pk w R p) (hF:p.subs=⟨none,0,0⟩) (hl:∀ l,st=some l->l.length<=65536) (h8:p.kind=8):Calls Tryz.prog 92 #[.pointer (some ⟨R,0,none⟩)] w (Listsubs w0 R p st w):=by
 obtain⟨i0,hi,hz0,hz1,hz2⟩:=info_parts infoSub
 have hlt:=h.lt
 have HW0:=h.keep
 have HP:=zh hp
 have HS:=zh h
 have HL:=zh hl
 have HF:=zh hF
 clear hp h hl hF
 go_enter Tryz.func92,Tryz.ntmps92
 go_wp2
 go_loopw [3] (fun c0 wr=>∃ (d:List Sb) (st1:Option (List Int)) (t:Sl) (k:Nat),c0=.int .i64 k/\k<=65536/\Hid (d.length=k)/\Hid (∀ l,st1=some l->k+l.length<=65536)/\Hid (Pk wr R { p with subs:=t })/\Hid (wr.ownsRow w.heap.size 122 5 t.val k (scs d))/\Hid (Acc sub? st d st1)/\Hid (RS w0 wr R st1)/\Hid (BX R isAny w wr)) (fun _ wr=>mlen R wr)
 case atStart =>
  refine⟨[],st,⟨none,0,0⟩,0,rfl,Nat.zero_le _,rfl,fun l hl=>by have:=(uh HL) l hl;omega,?_,World.ownsRow_nil _ _ _ _,Acc.start _ _,uh HS,BX.refl _ _ _⟩
  show Pk _ _ _
  have e:{ p with subs:=⟨none,0,0⟩ }=p:=by rw[<- uh HF]
  rw[e]
  exact uh HP
 case round =>
  obtain⟨d,st1,⟨ta,tn,tc⟩,k,rfl,hk,HD,HB,HPk,HOwn,HAcc,HRS,HBX⟩:=hrel
  obtain⟨ao,m,cap,c19,⟨g1,g2⟩,gl⟩:=(uh HRS).rest
  unfold maxLen at g2
  have c0:=(uh HPk).kind
  simp only at c0
  have cF:wr.cell? ⟨R,16,none⟩=some (.slice ta tn tc):=(uh HPk).subs
  rw[h8]at c0
  rcases (uh HRS).err with⟨l,rfl,c20⟩ | ⟨rfl,ty,x,c20⟩
  ·have hm:=gl l rfl
   clear gl
   by_cases hm0:m=0
   ·subst hm0
    obtain rfl:l=[]:=List.length_eq_zero_iff.1 hm
    go_wp2_with fail
    refine (mayCount_any k _).mono ?_
    rintro e wa ⟨rfl,hwa⟩
    obtain rfl:=hwa.symm
    clear hwa
    go_wp2_with fail
    refine (must_any R _ (some []) w0 wr (uh HRS)).mono ?_
    rintro e wb ⟨rfl,h2,hx2⟩
    have H2:=zh h2
    have HX2:=zh hx2
    clear h2 hx2
    go_wp2
    go_end0
    refine⟨rfl,⟨ta,tn,tc⟩,d,_,(uh HPk).bx (uh HX2),?_,?_,uh H2,(uh HBX).trans (uh HX2).any⟩
    ·show World.ownsRow _ _ _ _ _ _ _
     rw[uh HD]
     exact owns_bx (uh HOwn) (uh HX2) hlt
    ·refine ((uh HAcc).done (.inr rfl)).bind ((?_:Stp (mustR (mc d.length)) (some []) () (if mc k then (some []) else none)).bind (Stp.pure _ _))
     rw[uh HD]
     exact Stp.must _ _
   ·have hl0:l≠[]:=fun e=>hm0 (by rw[<- hm,e];rfl)
    have hbd:=bel_drew wr
    obtain⟨X,hXd⟩:∃ X:Nat->Prop,X=fun g=>g=R\/some g=(Value.slice ta tn tc).ownBlock:=⟨_,rfl⟩
    have HRSd:Hid (RSX w0 wr.drew R X (some l)):=by
     subst hXd
     exact ((uh HRS).below hbd).good _ ⟨.inl rfl,fun g hg=>by
      rcases hg with rfl | hg
      ·exact Nat.lt_of_lt_of_le hlt (uh HBX).size
      ·exact ((uh HOwn).lt g hg.symm).2⟩
    have HPd:=zh ((uh HPk).below hbd)
    have HBXd:Hid (BX R isAny w wr.drew):=(uh HBX).trans (BX.of_below hbd (uh HRS).lt)
    have HOd:Hid (wr.drew.ownsRow w.heap.size 122 5 (.slice ta tn tc) k (scs d)):=owns_below (uh HOwn) hbd
    clear hbd
    go_wp2_with fail
    refine wp_region_noPanic ?_
    refine wp_region_held_drew (S:=fun _=>True) (by kernel_rfl) trivial (fun hHeld=>?_)
    refine rtk 0 (h:=?_)
    refine rtk 1 (h:=?_)
    refine rtk 2 (h:=?_)
    refine rtk 3 (h:=?_)
    refine rtk 5 (h:=?_)
    refine wpAnyH_ready (rs:=[4,6]) (by kernel_rfl) (by simp) ?_
    refine rac (h:=fun K hK=>?ra) (hs:=(rac (h:=fun K hK=>?rb) (hs:=AllReadyH.nil)))
    case' ra =>
     go_simp
     refine hK.out _ _ trivial (fun hHeld=>?_)
     clear hK K
     refine rcl 6 (h:=fun K hK=>?_)
     go_simp
     refine (sub_anyX R X (some l) w0 _ (uh HRSd)).mono ?_
     rintro e w2 ⟨x,st2,rfl,hs2,h2,hx2⟩
     have cF2:w2.cell? ⟨R,16,none⟩=some (.slice ta tn tc):=(hx2.cell 16 (by unfold isRE;omega)).trans cF
     have hs2l:w.heap.size<=w2.heap.size:=Nat.le_trans (uh HBX).size hx2.size
     have HP2:=zh ((uh HPd).bx hx2)
     have HRS2:=zh h2
     have HST2:=zh hs2
     have HBX2:Hid (BX R isAny w w2):=(uh HBXd).trans hx2.any
     have HO2:Hid (w2.ownsRow w.heap.size 122 5 (.slice ta tn tc) k (scs d)):=owns_bx (uh HOd) hx2 hlt
     have hR2:R < w2.heap.size:=Nat.lt_of_lt_of_le hlt hs2l
     have cF3:(w2.alloc (.cells #[.string x.filter,.int .i64 x.qos,.bool x.nolocal,.bool x.aspub,.int .i64 x.handling] 122)).cell? ⟨R,16,none⟩=some (.slice ta tn tc):=(World.cell?_alloc_lt _ _ ⟨R,16,none⟩ hR2).trans cF2
     clear hx2 h2 hs2
     refine hK.out _ _ trivial (fun hHeld=>?_)
     clear hK K
     refine rcl 7 (h:=fun K hK=>?_)
     go_simp
     refine hK.out _ _ trivial (fun hHeld=>?_)
     clear hK K
    case' rb =>
     go_simp
     refine (sub_anyX R X (some l) w0 _ (uh HRSd)).mono ?_
     rintro e w2 ⟨x,st2,rfl,hs2,h2,hx2⟩
     have cF2:w2.cell? ⟨R,16,none⟩=some (.slice ta tn tc):=(hx2.cell 16 (by unfold isRE;omega)).trans cF
     have hs2l:w.heap.size<=w2.heap.size:=Nat.le_trans (uh HBX).size hx2.size
     have HP2:=zh ((uh HPd).bx hx2)
     have HRS2:=zh h2
     have HST2:=zh hs2
     have HBX2:Hid (BX R isAny w w2):=(uh HBXd).trans hx2.any
     have HO2:Hid (w2.ownsRow w.heap.size 122 5 (.slice ta tn tc) k (scs d)):=owns_bx (uh HOd) hx2 hlt
     have hR2:R < w2.heap.size:=Nat.lt_of_lt_of_le hlt hs2l
     have cF3:(w2.alloc (.cells #[.string x.filter,.int .i64 x.qos,.bool x.nolocal,.bool x.aspub,.int .i64 x.handling] 122)).cell? ⟨R,16,none⟩=some (.slice ta tn tc):=(World.cell?_alloc_lt _ _ ⟨R,16,none⟩ hR2).trans cF2
     clear hx2 h2 hs2
     refine hK.out _ _ trivial (fun hHeld=>?_)
     clear hK K
     refine wpAnyH_ready (rs:=[4,7]) (by kernel_rfl) (by simp) ?_
     refine rac (h:=fun K hK=>?rc) (hs:=(rac (h:=fun K hK=>?rd) (hs:=AllReadyH.nil)))
     case' rc =>
      go_simp
      refine hK.out _ _ trivial (fun hHeld=>?_)
      clear hK K
      refine rcl 7 (h:=fun K hK=>?_)
      go_simp
      refine hK.out _ _ trivial (fun hHeld=>?_)
      clear hK K
     case' rd =>
      go_simp
      refine hK.out _ _ trivial (fun hHeld=>?_)
      clear hK K
      refine rcl 4 (h:=fun K hK=>?_)
      go_simp
      refine hK.out _ _ trivial (fun hHeld=>?_)
      clear hK K
    all_goals (
     refine rcl 8 (h:=fun K hK=>?_)
     refine step_append_run (Z:=fun v' w'=>w'.ownsRow w.heap.size 122 5 v' (k+1) ((scs d)++x.cells)/\(w2.alloc (.cells #[.string x.filter,.int .i64 x.qos,.bool x.nolocal,.bool x.aspub,.int .i64 x.handling] 122)).grownBy w' (Value.slice ta tn tc).ownBlock) rfl _ _ 42 rfl (.slice ta tn tc) (.slice (some ⟨w2.heap.size,0,none⟩) 1 1) rfl rfl ?hr ?_
     case hr =>
      obtain⟨v4,w4,h1,h2,h3,_⟩:=run_append_own (P:=Tryz.prog) (w:=(w2.alloc (.cells #[.string x.filter,.int .i64 x.qos,.bool x.nolocal,.bool x.aspub,.int .i64 x.handling] 122))) w.heap.size 42 42 122 i0 _ 5 40 Tryz.underlying42 hi hz0 hz1 hz2 rfl (by decide) (.slice ta tn tc) k _ ((uh HO2).alloc _) ⟨w2.heap.size,0,none⟩ 1 1 x.cells rfl (five_cell _ _ _ _ _ _ _) (five_one _) (by unfold maxLen;omega) (by omega) (by simp;omega)
      exact⟨v4,w4,h1,h2,h3⟩
     rintro v4 w4 ⟨hO4,hg4⟩
     have hrow:∀ g,(Value.slice ta tn tc).ownBlock=some g->w.heap.size<=g/\g < wr.heap.size:=fun g hg=>(uh HOwn).lt g hg
     have hrR:(Value.slice ta tn tc).ownBlock≠some R:=fun e=>by have:=(hrow R e).1;omega
     have HP4:Hid (Pk w4 R { p with subs:=⟨ta,tn,tc⟩ }):=((uh HP2).below (bal _ _)).grown hg4 hrR
     have h0w:w0.heap.size<=w.heap.size:=HW0.size
     have HRS4:Hid (RSX w0 w4 R X st2):=((uh HRS2).below (bal _ _)).grown hg4 (fun g hg=>by rw[hXd];exact .inr hg.symm) hrR (fun g hg=>Nat.le_trans h0w (hrow g hg).1)
     have HBX4:Hid (BX R isAny w w4):=((uh HBX2).trans (BX.of_below (bal _ _) hR2)).grown hg4 (fun g hg=>(hrow g hg).1) hlt
     obtain⟨⟨sa,sn,sc⟩,hv4,_⟩:=owns_sl hO4
     have hv4:v4=.slice sa sn sc:=hv4
     subst hv4
     have HO4:=zh hO4
     have cF4:w4.cell? ⟨R,16,none⟩=some (.slice ta tn tc):=(uh HP4).subs
     have fF4:w4.frozen? ⟨R,16,none⟩=false:=(uh HP4).subs_f
     clear hO4 hg4 hrow cF2 cF3 HP2 HRS2 HBX2
     refine hK.out _ _ trivial (fun hHeld=>?_)
     clear hK K
     simp only[Act.put,List.setIfInBounds_toArray,List.set_cons_zero,List.set_cons_succ]
     refine rtk 9 (h:=?_)
     refine rtk 10 (h:=?_)
     refine rcl 11 (h:=fun K hK=>?_)
     go_simp
     refine hK.out _ _ trivial (fun hHeld=>?_)
     clear hK K
     refine wpAnyH_done (by kernel_rfl) ?_ _
     refine NoPanic.normal ?_
     have HRS5:Hid (RS w0 (w4.setCell ⟨R,16,none⟩ (.slice sa sn sc)) R st2):=((uh HRS4).less (fun g=>g=R) rfl (fun g hg=>by rw[hXd];exact .inl hg)).set 16 _ (by decide)
     have HP5:Hid (Pk (w4.setCell ⟨R,16,none⟩ (.slice sa sn sc)) R { p with subs:=⟨sa,sn,sc⟩ }):=(uh HP4).set_subs ⟨sa,sn,sc⟩
     have HBX5:Hid (BX R isAny w (w4.setCell ⟨R,16,none⟩ (.slice sa sn sc))):=(uh HBX4).set 16 _ trivial
     have HO5:Hid ((w4.setCell ⟨R,16,none⟩ (.slice sa sn sc)).ownsRow w.heap.size 122 5 (.slice sa sn sc) (k+1) (scs (d++[x]))):=by
      show World.ownsRow _ _ _ _ _ _ _
      rw[show (scs (d++[x]))=(scs d)++x.cells from by rw[scs_app]]
      exact owns_bx (uh HO4) ((BX.refl R isAny w4).set 16 _ trivial) hlt
     have HA5:Hid (Acc sub? st (d++[x]) st2):=(uh HAcc).step sub?_shr (uh HST2) hl0
     have HB5:Hid (∀ l',st2=some l'->(k+1)+l'.length<=65536):=by
      intro l' hl'
      subst hl'
      have h2:=stp_len sub?_shr (uh HST2)
      have h3:=(uh HB) l rfl
      omega
     have hM:mlen R (w4.setCell ⟨R,16,none⟩ (.slice sa sn sc)) < mlen R wr:=by
      rw[mlen_some (uh HRS)]
      cases st2 with
      | none=>rw[mlen_none (uh HRS5)];omega
      | some l' =>
       rw[mlen_some (uh HRS5)]
       have:=stp_len sub?_shr (uh HST2)
       omega
     have hk1:k+1<=65536:=by
      have h3:=(uh HB) l rfl
      have:=List.length_pos_iff.2 hl0
      omega
     have HD5:Hid ((d++[x]).length=k+1):=by show _=_;rw[List.length_append,uh HD];rfl
     clear HRS4 HP4 HBX4 HO4 cF4 fF4
     go_wp2
     go_roundw
     case rel=>exact⟨d++[x],st2,⟨sa,sn,sc⟩,k+1,by go_num,hk1,HD5,HB5,HP5,HO5,HA5,HRS5,HBX5⟩
     case measure=>exact hM)
  ·clear gl
   go_wp2_with fail
   refine (mayCount_any k _).mono ?_
   rintro e wa ⟨rfl,hwa⟩
   obtain rfl:=hwa.symm
   clear hwa
   go_wp2_with fail
   refine (must_any R _ none w0 wr (uh HRS)).mono ?_
   rintro e wb ⟨rfl,h2,hx2⟩
   have H2:=zh h2
   have HX2:=zh hx2
   clear h2 hx2
   go_wp2
   go_end0
   refine⟨rfl,⟨ta,tn,tc⟩,d,_,(uh HPk).bx (uh HX2),?_,?_,uh H2,(uh HBX).trans (uh HX2).any⟩
   ·show World.ownsRow _ _ _ _ _ _ _
    rw[uh HD]
    exact owns_bx (uh HOwn) (uh HX2) hlt
   ·refine ((uh HAcc).done (.inl rfl)).bind ((?_:Stp (mustR (mc d.length)) none () (if mc k then none else none)).bind (Stp.pure _ _))
    rw[uh HD]
    exact Stp.must _ _
end Go.Proofs.YtccnjdgaldbgnaaGreatDoor.K
