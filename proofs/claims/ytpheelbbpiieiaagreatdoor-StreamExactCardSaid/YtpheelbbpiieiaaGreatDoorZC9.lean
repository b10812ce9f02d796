/- Proved here: helpers, one text behind the other. -/
import Derived.Laws.AppendOwnNone
import Derived.Deep.RegionHeld3
import Derived.Deep.AppendLies
import Derived.Test.YtpheelbbpiieiaaGreatDoorZC8
import Derived.Laws.IdiomStrings
import Derived.Maps.AppendAt
set_option maxHeartbeats 20000000
namespace Go.Proofs.YtpheelbbpiieiaaGreatDoor
open Go.RowKit
theorem take_snoc_getD (xs:List Int) (k:Nat) (h:k < xs.length):xs.take k++[xs.getD k 0]=xs.take (k+1):=by
 rw[List.take_succ_eq_append_getElem h,List.getD_eq_getElem?_getD,List.getElem?_eq_getElem h];rfl
theorem copy_core (b off n cap:Nat) (xs:List Int) (w:World) (hn:xs.length=n) (hb:n<=140737488355328)
  (hc:∀ j,j < n->w.cell? ⟨b,off+j,none⟩=some (.int .u8 (xs.getD j 0))) :
  Calls Tryz.prog 6 #[.slice (some ⟨b,off,none⟩) n cap] w fun e w'=>∃ v,e=.returned v/\w'.ownsRow w.heap.size 5 1 v n (xs.map (Value.int .u8))/\Below w.heap.size w w':=by
 obtain⟨i0,hi,hz0,hz1,hz2⟩:=info_parts Tryz.infoU8
 have HC:=zh hc
 have HN:=zh hn
 clear hc hn
 go_enter Tryz.func6,Tryz.ntmps6
 go_wp2
 go_loopw [3,4] (fun m i wr=>∃ k:Nat,k<=n/\i=.int .i64 k/\wr.ownsRow w.heap.size 5 1 m k ((xs.take k).map (Value.int .u8))/\Below w.heap.size w wr) (fun _ i _=>n - (intOf i).toNat)
 case atStart=>exact⟨0,Nat.zero_le _,rfl,World.ownsRow_nil _ _ _ _,Below.refl _ _⟩
 case round =>
  obtain⟨k,hk,rfl,hown,hbel⟩:=hrel
  by_cases hlt:k < n
  ·have hc0:=(uh HC) k hlt
   have hc1:=(hbel.cell (p:=⟨b,off+k,none⟩) (cell_lt hc0)).trans hc0
   clear hc0
   have ht:=zh (take_snoc_getD xs k (by have:=uh HN;omega))
   generalize xs.getD k 0=x at hc1 ht
   go_wp2_with (first
    | (at_builtin;refine wpList_append_own _ rfl _ _ 30 rfl w.heap.size 5 i0 (.int .u8 0) 1 1 Tryz.underlying30 hi hz0 hz1 hz2 rfl (by decide) _ _ _ rfl (hown.alloc _) ⟨wr.heap.size,0,none⟩ 1 1 [.int .u8 x] rfl rfl (one_cell _ _ _) (one_one _ _) (by unfold maxLen;omega) (by omega) (by have:=hbel.size;simp;omega) ?_)
    | go_in)
   intro v' w1 hown' hgrow _
   have hb1:Below w.heap.size w w1:=(hbel.alloc hbel.size _).grown hgrow (by have:=hbel.size;simp;omega) (fun k hk=>(hown.lt k hk).1)
   clear hgrow hown hbel
   go_wp2
   go_roundw
   case rel=>exact⟨k+1,by omega,by go_num,by rw[<- uh ht,List.map_append,List.map_take];exact hown',hb1⟩
   case measure=>simp[intOf];omega
  ·go_wp2
   go_ret
   have hk':k=n:=by omega
   subst hk'
   rw[List.take_of_length_le (by have:=uh HN;omega)]at hown
   exact⟨_,rfl,hown,hbel⟩
theorem addr_add (b off j:Nat):(⟨b,off,none⟩:Addr).add j=⟨b,off+j,none⟩:=by unfold Addr.add;split <;> simp_all
theorem run_append_byt (w:World) (base:Nat) (ty:TypeId) (v:Value) (n:Nat) (xs:List Int) (hown:w.ownsRow base 5 1 v n (xs.map (Value.int .u8))) (vx:Value) (ys:List Int) (hy:Byt w vx ys)
  (hbytes:n+ys.length<=140737488355328) (hbase:base<=w.heap.size) :
  ∃ v' w',(Builtin.append_ #[30,30] ty #[v,vx]).run Tryz.prog w=.ok v' w'/\w'.ownsRow base 5 1 v' (n+ys.length) ((xs++ys).map (Value.int .u8))/\w.grownBy w' v.ownBlock:=by
 obtain⟨i0,hi,hz0,hz1,hz2⟩:=info_parts Tryz.infoU8
 obtain⟨ao,cap,rfl,hlen,hr,hcase⟩:=hy
 have key:∀ (a:Addr),(∀ j,j < ys.length->w.cell? (a.add j)=some (.int .u8 (ys.getD j 0)))->∃ v' w',(Builtin.append_ #[30,30] ty #[v,.slice (some a) ys.length cap]).run Tryz.prog w=.ok v' w'/\w'.ownsRow base 5 1 v' (n+ys.length) ((xs++ys).map (Value.int .u8))/\w.grownBy w' v.ownBlock:=by
  intro a ha
  obtain⟨v',w',h1,h2,h3,_⟩:=run_append_own (P:=Tryz.prog) w base 30 ty 5 i0 (.int .u8 0) 1 1 Tryz.underlying30 hi hz0 hz1 hz2 rfl (by decide) v n _ hown a ys.length cap (ys.map (Value.int .u8)) (by simp)
   (fun j u hj=>by
    rw[List.getElem?_map]at hj
    by_cases hjl:j < ys.length
    ·rw[ha j hjl]
     rw[List.getElem?_eq_getElem hjl]at hj
     rw[List.getD_eq_getElem?_getD,List.getElem?_eq_getElem hjl]
     exact hj
    ·rw[List.getElem?_eq_none (by omega)]at hj;cases hj)
   (fun u hu=>by obtain⟨_,_,rfl⟩:=List.mem_map.1 hu;rfl) (by unfold maxLen;omega) (by omega) hbase
  exact⟨v',w',h1,by rw[List.map_append];exact h2,h3⟩
 rcases hcase with rfl | ⟨b,off,rfl,hc⟩
 ·cases ao with
  | none =>
   refine⟨v,w,?_,?_,⟨rfl,rfl,rfl,Nat.le_refl _,fun _ _ _=>rfl⟩⟩
   ·rcases hown.2 with⟨rfl,rfl⟩ | ⟨g,cap',cur,rfl,_,_,hnc,_⟩
    ·simp[Builtin.append_,run_underlying Tryz.underlying30,sizeOf,typeInfo,hi,Builtin.lenOf,Builtin.firstCells]
    ·simp[Builtin.append_,run_underlying Tryz.underlying30,sizeOf,typeInfo,hi,Builtin.lenOf,Builtin.firstCells,hnc,storeCells]
   ·simpa using hown
  | some a=>exact key a (fun j hj=>by simp at hj)
 ·exact key ⟨b,off,none⟩ (fun j hj=>by rw[addr_add];exact hc j hj)
theorem conv_str (s:ByteArray) (hs:s.size<=maxLen) (w:World):∃ v w1,(convert 9 30 (.string s)).run Tryz.prog w=.ok v w1/\Byt w1 v (sb s)/\Below w.heap.size w w1:=by
 refine⟨_,_,run_bytes_of_string w 9 30 5 s Tryz.underlying9 Tryz.underlying30 Tryz.underlying5,?_,?_⟩
 ·refine⟨_,_,by rw[sb_length],⟨by rw[sb_length];exact grownCap_ge _ _ _ _,grownCap_le_maxLen _ _ _ _ hs⟩,sb_range s,.inr ⟨_,_,rfl,fun j hj=>?_⟩⟩
  rw[sb_length]at hj
  have h1:=World.cell?_alloc_mark w.drew (bytesRow s (grownCap w s.size 0 5)) 5 ((bytesRow s (grownCap w s.size 0 5)).size,(bytesRow s (grownCap w s.size 0 5)).size+1) j
  rw[Nat.zero_add]
  refine h1.trans ?_
  rw[bytesRow_at s _ j hj,<- sb_get s j hj]
  rfl
 ·exact (below_drewN (Below.refl _ _) 1).alloc (Nat.le_refl _) _
set_option maxRecDepth 100000 in
theorem rcheck_any (s:ByteArray) (w:World) (hs:s.size<=4611686018427387904):Calls Tryz.prog 163 #[.string s] w fun e w'=>e=.returned (.int .i64 (chk (sb s)))/\Below w.heap.size w w':=by
 obtain⟨v,w1,hrun,hby,hb⟩:=conv_str s (by unfold maxLen;omega) w
 have HBY:=zh hby
 have HB:=zh hb
 have HL:=zh (sb_length s)
 clear hby hb
 by_cases hu:utf (sb s)=true
 ·by_cases hm:s.size<=65535
  ·have hc:Hid (chk (sb s)=0):=by show _=_;unfold chk;rw[if_pos hu,if_pos (by rw[uh HL];exact hm)]
   go_enter Tryz.func163,Tryz.ntmps163
   go_wp2_with (go_at_call 125;refine (rutf_any v (sb s) _ (uh HBY)).mono ?_;rintro e w' ⟨rfl,rfl⟩)
   go_ret
   exact⟨ret_int (uh hc).symm,uh HB⟩
  ·have hc:Hid (chk (sb s)=2):=by show _=_;unfold chk;rw[if_pos hu,if_neg (by rw[uh HL];exact hm)]
   go_enter Tryz.func163,Tryz.ntmps163
   go_wp2_with (go_at_call 125;refine (rutf_any v (sb s) _ (uh HBY)).mono ?_;rintro e w' ⟨rfl,rfl⟩)
   go_ret
   exact⟨ret_int (uh hc).symm,uh HB⟩
 ·have hc:Hid (chk (sb s)=1):=by show _=_;unfold chk;rw[if_neg hu]
  have hu':utf (sb s)=false:=by simpa using hu
  go_enter Tryz.func163,Tryz.ntmps163
  go_wp2_with (go_at_call 125;refine (rutf_any v (sb s) _ (uh HBY)).mono ?_;rintro e w' ⟨rfl,rfl⟩)
  go_ret
  exact⟨ret_int (uh hc).symm,uh HB⟩
theorem wpList_append_byt (w:World) {ops:Array Oper} {rest:List Oper} {o:Oper} {a:Act} {Q:Exit->Act->World->Prop} (hgd:o.guard=none) (s x:Operand)
  (ho:o.op=.call { callee:=.builtin .append,args:=#[s,x],argTypes:=#[30,30] })
  (base:Nat) (v:Value) (n:Nat) (xs:List Int) (hs:a.eval s=v) (hown:w.ownsRow base 5 1 v n (xs.map (Value.int .u8))) (vx:Value) (ys:List Int) (hx:a.eval x=vx) (hy:Byt w vx ys)
  (hbytes:n+ys.length<=140737488355328) (hbase:base<=w.heap.size)
  (h:∀ v' w',w'.ownsRow base 5 1 v' (n+ys.length) ((xs++ys).map (Value.int .u8))->w.grownBy w' v.ownBlock->wpList Tryz.prog ops Q rest (a.put o.dst v') w'):wpList Tryz.prog ops Q (o :: rest) a w:=by
 refine wpList_plain hgd fun K hK=>?_
 obtain⟨v',w',hr,h2,h3⟩:=run_append_byt w base o.type v n xs hown vx ys hy hbytes hbase
 unfold Oper.wp execOp
 simp only[ho,resolve,invoke,builtin,Sem.run_bind,Sem.run_pure,Result.andThen_ok,List.map_toArray,List.map_cons,List.map_nil,hs,hx,hr]
 exact hK _ _ (h v' w' h2 h3)
def nb (l:List Int):Nat:=(l.getD 0 0 * 256+l.getD 1 0).toNat
def gbs (l:List Int):ByteArray:=bs ((l.drop 2).take (nb l))
theorem conv_bytes (w:World) (b off cap:Nat) (l:List Int) (hr:∀ j,0<=l.getD j 0/\l.getD j 0<=255) (hc:∀ j,j < l.length->w.cell? ⟨b,off+j,none⟩=some (.int .u8 (l.getD j 0))) :
  (convert 30 9 (.slice (some ⟨b,off,none⟩) l.length cap)).run Tryz.prog w=.ok (.string (bs l)) w:=by
 have h:=run_convert_bytes_back (P:=Tryz.prog) w 30 9 5 ⟨b,off,none⟩ cap (l.map fun n=>UInt8.ofNat n.toNat) Tryz.underlying30 Tryz.underlying5 Tryz.underlying9 (fun j hj=>by
  rw[List.length_map]at hj
  have h1:=hr j
  rw[addr_add,hc j hj]
  rw[List.getD_eq_getElem?_getD,List.getElem?_eq_getElem hj]at h1 |-
  simp only[Option.getD_some]at h1
  simp only[Option.getD_some,List.getElem_map,UInt8.toNat_ofNat']
  congr 2
  omega)
 rw[List.length_map]at h
 exact h
theorem nb_or (l:List Int) (h0:0<=l.getD 0 0/\l.getD 0 0<=255) (h1:0<=l.getD 1 0/\l.getD 1 0<=255):bits .or .i64 (l.getD 0 0 * 256) (l.getD 1 0)=(nb l:Int)/\nb l<=65535:=by
 rw[or_i64 _ _ 8 (by omega) (by omega) (by omega) (by omega) (by omega) (by omega)]
 unfold nb
 omega
theorem take_drop_length (l:List Int) (k n:Nat) (h:k+n<=l.length):((l.drop k).take n).length=n:=by rw[List.length_take,List.length_drop];omega
theorem take_drop_getD (l:List Int) (k n j:Nat) (hj:j < n):((l.drop k).take n).getD j 0=l.getD (k+j) 0:=by
 rw[List.getD_eq_getElem?_getD,List.getElem?_take,if_pos hj,List.getElem?_drop,<- List.getD_eq_getElem?_getD]
theorem take_drop_range (l:List Int) (k n:Nat) (h:∀ j,0<=l.getD j 0/\l.getD j 0<=255):∀ j,0<=((l.drop k).take n).getD j 0/\((l.drop k).take n).getD j 0<=255:=by
 intro j
 by_cases hj:j < n
 ·rw[take_drop_getD l k n j hj];exact h _
 ·rw[List.getD_eq_getElem?_getD,List.getElem?_take,if_neg hj];simp
theorem gbs_conv (b off len cap:Nat) (l:List Int) (w:World) (hm:Mem w b off len l) (hl:2+nb l<=len) :
  ∀ q,(convert 30 9 (.slice (some ⟨b,off+2,none⟩) (nb l) (cap - 2))).run Tryz.prog (w.drewN q)=.ok (.string (gbs l)) (w.drewN q):=by
 intro q
 have hlen:=take_drop_length l 2 (nb l) (by rw[hm.len];exact hl)
 have h:=conv_bytes (w.drewN q) b (off+2) (cap - 2) ((l.drop 2).take (nb l)) (take_drop_range l 2 _ hm.range) (fun j hj=>by
  rw[hlen]at hj
  rw[World.cell?_drewN,take_drop_getD l 2 _ j hj,Nat.add_assoc]
  exact hm.cell (2+j) (by omega))
 rw[hlen]at h
 exact h
theorem gbs_conv0 (b off:Nat) (l:List Int) (w:World) (h0:nb l=0) :
  ∀ q,(convert 30 9 (.slice (some ⟨b,off,none⟩) 0 0)).run Tryz.prog (w.drewN q)=.ok (.string (gbs l)) (w.drewN q):=by
 intro q
 have h:=conv_bytes (w.drewN q) b off 0 [] (by intro j;simp) (by intro j hj;simp at hj)
 unfold gbs
 rw[h0]
 exact h
set_option maxRecDepth 100000 in
theorem gb_ok (b off len cap:Nat) (l:List Int) (w:World) (hm:Mem w b off len l) (hl2:2<=len) (hl:2+nb l<=len) (hcap:len<=cap) (hcm:cap<=maxLen) :
  Calls Tryz.prog 116 #[.slice (some ⟨b,off,none⟩) len cap] w fun e w'=>e=.returned (.tuple #[.string (gbs l),.int .i64 (2+nb l:Nat),.nilIface])/\∃ q,w'=w.drewN q:=by
 unfold maxLen at hcm
 have hc0:=hm.cell0 (by omega)
 have hc1:=hm.cell 1 (by omega)
 have hr0:=hm.range 0
 have hr1:=hm.range 1
 obtain⟨hor,hn⟩:=nb_or l hr0 hr1
 have hconv:=gbs_conv b off len cap l w hm hl
 have hconv0:=gbs_conv0 b off l w
 have HM:=zh hm
 clear hm
 generalize hg:gbs l=g at hconv hconv0
 have HG:=zh hg
 generalize hnn:nb l=n at hl hor hn hconv hconv0
 have HN:=zh hnn
 generalize l.getD 0 0=c0 at hc0 hr0 hor
 generalize l.getD 1 0=c1 at hc1 hr1 hor
 clear hg hnn
 by_cases hc2:cap=2
 ·subst hc2
  obtain rfl:n=0:=by omega
  obtain rfl:len=2:=by omega
  have hconv1:=hconv0 rfl
  clear hconv hconv0
  go_enter Tryz.func116,Tryz.ntmps116
  go_wp2
  go_quiet (fail)
  go_wp2
  go_ret3
  exact⟨rfl,_,rfl⟩
 ·clear hconv0
  go_enter Tryz.func116,Tryz.ntmps116
  go_wp2
  go_quiet (fail)
  go_wp2
  go_ret3
  exact⟨rfl,_,rfl⟩
theorem gb_short2 (ao:Option Addr) (len cap:Nat) (w:World) (hl:len < 2) :
  Calls Tryz.prog 116 #[.slice ao len cap] w fun e w'=>e=.returned (.tuple #[.string ⟨#[]⟩,.int .i64 0,.iface 118 (.pointer (some ⟨w.heap.size,0,none⟩))])/\w'=faultW 3 w:=by
 go_enter Tryz.func116,Tryz.ntmps116
 go_wp2_with (go_at_call 143;refine (fault_any _ _).mono ?_;rintro e w' ⟨rfl,rfl⟩)
 go_ret3
 exact⟨rfl,rfl⟩
set_option maxRecDepth 100000 in
theorem gb_short (b off len cap:Nat) (l:List Int) (w:World) (hm:Mem w b off len l) (hl2:2<=len) (hl:len < 2+nb l) :
  Calls Tryz.prog 116 #[.slice (some ⟨b,off,none⟩) len cap] w fun e w'=>e=.returned (.tuple #[.string ⟨#[]⟩,.int .i64 0,.iface 118 (.pointer (some ⟨w.heap.size,0,none⟩))])/\∃ q,w'=faultW 3 (w.drewN q):=by
 have hc0:=hm.cell0 (by omega)
 have hc1:=hm.cell 1 (by omega)
 have hr0:=hm.range 0
 have hr1:=hm.range 1
 obtain⟨hor,hn⟩:=nb_or l hr0 hr1
 have HM:=zh hm
 clear hm
 generalize hnn:nb l=n at hl hor hn
 have HN:=zh hnn
 generalize l.getD 0 0=c0 at hc0 hr0 hor
 generalize l.getD 1 0=c1 at hc1 hr1 hor
 clear hnn
 go_enter Tryz.func116,Tryz.ntmps116
 go_wp2
 go_quiet (fail)
 go_wp2_with (go_at_call 143;refine (fault_any _ _).mono ?_;rintro e w' ⟨rfl,rfl⟩)
 go_ret3
 exact⟨rfl,_,rfl⟩
set_option maxRecDepth 100000 in
theorem rgb_ok (b off len cap:Nat) (l:List Int) (w:World) (hm:Mem w b off len l) (hl2:2<=len) (hl:2+nb l<=len) (hcap:len<=cap) (hcm:cap<=maxLen) :
  Calls Tryz.prog 122 #[.slice (some ⟨b,off,none⟩) len cap] w fun e w'=>e=.returned (.tuple #[.string (gbs l),.int .i64 (2+nb l:Nat),.int .i64 0])/\∃ q,w'=w.drewN q:=by
 unfold maxLen at hcm
 have hc0:=hm.cell0 (by omega)
 have hc1:=hm.cell 1 (by omega)
 have hr0:=hm.range 0
 have hr1:=hm.range 1
 obtain⟨hor,hn⟩:=nb_or l hr0 hr1
 have hconv:=gbs_conv b off len cap l w hm hl
 have hconv0:=gbs_conv0 b off l w
 have HM:=zh hm
 clear hm
 generalize hg:gbs l=g at hconv hconv0
 have HG:=zh hg
 generalize hnn:nb l=n at hl hor hn hconv hconv0
 have HN:=zh hnn
 generalize l.getD 0 0=c0 at hc0 hr0 hor
 generalize l.getD 1 0=c1 at hc1 hr1 hor
 clear hg hnn
 by_cases hc2:cap=2
 ·subst hc2
  obtain rfl:n=0:=by omega
  obtain rfl:len=2:=by omega
  have hconv1:=hconv0 rfl
  clear hconv hconv0
  go_enter Tryz.func122,Tryz.ntmps122
  go_wp2
  go_quiet (fail)
  go_wp2
  go_ret3
  exact⟨rfl,_,rfl⟩
 ·clear hconv0
  go_enter Tryz.func122,Tryz.ntmps122
  go_wp2
  go_quiet (fail)
  go_wp2
  go_ret3
  exact⟨rfl,_,rfl⟩
theorem rgb_short2 (ao:Option Addr) (len cap:Nat) (w:World) (hl:len < 2) :
  Calls Tryz.prog 122 #[.slice ao len cap] w fun e w'=>e=.returned (.tuple #[.string ⟨#[]⟩,.int .i64 0,.int .i64 3])/\w'=w:=by
 go_enter Tryz.func122,Tryz.ntmps122
 go_wp2
 go_ret3
 exact⟨rfl,rfl⟩
set_option maxRecDepth 100000 in
theorem rgb_short (b off len cap:Nat) (l:List Int) (w:World) (hm:Mem w b off len l) (hl2:2<=len) (hl:len < 2+nb l) :
  Calls Tryz.prog 122 #[.slice (some ⟨b,off,none⟩) len cap] w fun e w'=>e=.returned (.tuple #[.string ⟨#[]⟩,.int .i64 0,.int .i64 3])/\∃ q,w'=w.drewN q:=by
 have hc0:=hm.cell0 (by omega)
 have hc1:=hm.cell 1 (by omega)
 have hr0:=hm.range 0
 have hr1:=hm.range 1
 obtain⟨hor,hn⟩:=nb_or l hr0 hr1
 have HM:=zh hm
 clear hm
 generalize hnn:nb l=n at hl hor hn
 have HN:=zh hnn
 generalize l.getD 0 0=c0 at hc0 hr0 hor
 generalize l.getD 1 0=c1 at hc1 hr1 hor
 clear hnn
 go_enter Tryz.func122,Tryz.ntmps122
 go_wp2
 go_quiet (fail)
 go_wp2
 go_ret3
 exact⟨rfl,_,rfl⟩
def full (l:List Int):Bool:=decide (2<=l.length) && decide (2+nb l<=l.length)
theorem gbin_ok (v:Value) (l:List Int) (w:World) (hv:Byt w v l) (h:full l=true):Calls Tryz.prog 116 #[v] w fun e w'=>e=.returned (.tuple #[.string (gbs l),.int .i64 (2+nb l:Nat),.nilIface])/\∃ q,w'=w.drewN q:=by
 simp only[full,Bool.and_eq_true,decide_eq_true_eq]at h
 obtain⟨ao,cap,rfl,hlen,hr,hcase⟩:=hv
 rcases hcase with rfl | ⟨b,off,rfl,hc⟩
 ·simp at h
 ·exact gb_ok b off l.length cap l w ⟨rfl,hc,hr⟩ h.1 h.2 hlen.1 hlen.2
theorem rgbin_ok (v:Value) (l:List Int) (w:World) (hv:Byt w v l) (h:full l=true):Calls Tryz.prog 122 #[v] w fun e w'=>e=.returned (.tuple #[.string (gbs l),.int .i64 (2+nb l:Nat),.int .i64 0])/\∃ q,w'=w.drewN q:=by
 simp only[full,Bool.and_eq_true,decide_eq_true_eq]at h
 obtain⟨ao,cap,rfl,hlen,hr,hcase⟩:=hv
 rcases hcase with rfl | ⟨b,off,rfl,hc⟩
 ·simp at h
 ·exact rgb_ok b off l.length cap l w ⟨rfl,hc,hr⟩ h.1 h.2 hlen.1 hlen.2
theorem gbin_short (v:Value) (l:List Int) (w:World) (hv:Byt w v l) (h:full l=false):Calls Tryz.prog 116 #[v] w fun e w'=>e=.returned (.tuple #[.string ⟨#[]⟩,.int .i64 0,.iface 118 (.pointer (some ⟨w.heap.size,0,none⟩))])/\∃ q,w'=faultW 3 (w.drewN q):=by
 simp only[full,Bool.and_eq_false_iff,decide_eq_false_iff_not]at h
 obtain⟨ao,cap,rfl,hlen,hr,hcase⟩:=hv
 by_cases h2:l.length < 2
 ·refine (gb_short2 ao l.length cap w h2).mono ?_
  rintro e w' ⟨rfl,rfl⟩
  exact⟨rfl,0,rfl⟩
 ·rcases hcase with rfl | ⟨b,off,rfl,hc⟩
  ·simp at h2
  ·exact gb_short b off l.length cap l w ⟨rfl,hc,hr⟩ (by omega) (by omega)
theorem rgbin_short (v:Value) (l:List Int) (w:World) (hv:Byt w v l) (h:full l=false):Calls Tryz.prog 122 #[v] w fun e w'=>e=.returned (.tuple #[.string ⟨#[]⟩,.int .i64 0,.int .i64 3])/\∃ q,w'=w.drewN q:=by
 simp only[full,Bool.and_eq_false_iff,decide_eq_false_iff_not]at h
 obtain⟨ao,cap,rfl,hlen,hr,hcase⟩:=hv
 by_cases h2:l.length < 2
 ·refine (rgb_short2 ao l.length cap w h2).mono ?_
  rintro e w' ⟨rfl,rfl⟩
  exact⟨rfl,0,rfl⟩
 ·rcases hcase with rfl | ⟨b,off,rfl,hc⟩
  ·simp at h2
  ·exact rgb_short b off l.length cap l w ⟨rfl,hc,hr⟩ (by omega) (by omega)
def gbn (l:List Int):ByteArray×Int×Int:=if full l=true then (gbs l,(2+nb l:Nat),0) else (⟨#[]⟩,0,3)
def gt (l:List Int):ByteArray×Int×Int:=if full l=true then (if utf (sb (gbs l))=true then (gbs l,(2+nb l:Nat),0) else (⟨#[]⟩,0,1)) else (⟨#[]⟩,0,3)
theorem gbs_size (l:List Int) (hr:∀ j,0<=l.getD j 0/\l.getD j 0<=255):(gbs l).size<=65535:=by
 rw[<- sb_length]
 unfold gbs
 rw[sb_bs _ (take_drop_range l 2 _ hr),List.length_take]
 have:=(nb_or l (hr 0) (hr 1)).2
 omega
theorem below_q {w:World} (q:Nat):Below w.heap.size w (w.drewN q):=below_drewN (Below.refl _ _) q
theorem rgetBin_any (v:Value) (l:List Int) (w:World) (hv:Byt w v l):Calls Tryz.prog 122 #[v] w fun e w'=>e=.returned (.tuple #[.string (gbn l).1,.int .i64 (gbn l).2.1,.int .i64 (gbn l).2.2])/\Below w.heap.size w w':=by
 by_cases hf:full l=true
 ·unfold gbn
  rw[if_pos hf]
  refine (rgbin_ok v l w hv hf).mono ?_
  rintro e w' ⟨rfl,q,rfl⟩
  exact⟨rfl,below_q q⟩
 ·unfold gbn
  rw[if_neg hf]
  refine (rgbin_short v l w hv (by simpa using hf)).mono ?_
  rintro e w' ⟨rfl,q,rfl⟩
  exact⟨rfl,below_q q⟩
theorem get_short (v:Value) (l:List Int) (w:World) (hv:Byt w v l) (h:full l=false):Calls Tryz.prog 114 #[v] w fun e w'=>e=.returned (.tuple #[.string ⟨#[]⟩,.int .i64 0,.iface 118 (.pointer (some ⟨w.heap.size,0,none⟩))])/\∃ q,w'=faultW 3 (w.drewN q):=by
 have HG:=zh (gbin_short v l w hv h)
 have HV:=zh hv
 clear hv
 go_enter Tryz.func114,Tryz.ntmps114
 go_wp2_with (go_at_call 116;refine (uh HG).mono ?_;rintro e w' ⟨rfl,q,rfl⟩)
 go_ret3
 exact⟨rfl,_,rfl⟩
theorem get_ok (v:Value) (l:List Int) (w:World) (hv:Byt w v l) (h:full l=true) (hu:utf (sb (gbs l))=true):Calls Tryz.prog 114 #[v] w fun e w'=>e=.returned (.tuple #[.string (gbs l),.int .i64 (2+nb l:Nat),.nilIface])/\∃ q,w'=w.drewN q:=by
 have HG:=zh (gbin_ok v l w hv h)
 have hz:=gbs_size l hv.range
 have HC:Hid (chk (sb (gbs l))=0):=by show _=_;unfold chk;rw[if_pos hu,if_pos (by rw[sb_length];exact hz)]
 have hnb:=(nb_or l (hv.range 0) (hv.range 1)).2
 have HV:=zh hv
 have HU:=zh hu
 clear hv hu
 generalize nb l=n at HG hnb
 generalize gbs l=g at HG hz HC
 go_enter Tryz.func114,Tryz.ntmps114
 go_wp2_with (first | (go_at_call 116;refine (uh HG).mono ?_;rintro e w' ⟨rfl,q,rfl⟩) | (go_at_call 142;refine (check_ok g _ (by omega) (uh HC)).mono ?_;rintro e w' ⟨rfl,rfl⟩))
 go_ret3
 exact⟨rfl,_,rfl⟩
theorem get_form (v:Value) (l:List Int) (w:World) (hv:Byt w v l) (h:full l=true) (hu:utf (sb (gbs l))=false):Calls Tryz.prog 114 #[v] w fun e w'=>e=.returned (.tuple #[.string ⟨#[]⟩,.int .i64 0,.iface 118 (.pointer (some ⟨w.heap.size,0,none⟩))])/\∃ q,w'=faultW 1 (w.drewN q):=by
 have HG:=zh (gbin_ok v l w hv h)
 have hz:=gbs_size l hv.range
 have HC:Hid (chk (sb (gbs l))=1):=by show _=_;unfold chk;rw[if_neg (by rw[hu];simp)]
 have HV:=zh hv
 have HU:=zh hu
 clear hv hu
 generalize nb l=n at HG
 generalize gbs l=g at HG hz HC
 go_enter Tryz.func114,Tryz.ntmps114
 go_wp2_with (first | (go_at_call 116;refine (uh HG).mono ?_;rintro e w' ⟨rfl,q,rfl⟩) | (go_at_call 142;refine (check_bad g 1 _ (by omega) (uh HC) (by decide)).mono ?_;rintro e w' ⟨rfl,rfl⟩))
 go_ret3
 exact⟨rfl,_,rfl⟩
theorem get_any (v:Value) (l:List Int) (w:World) (hv:Byt w v l):Calls Tryz.prog 114 #[v] w fun e w'=>∃ E,e=.returned (.tuple #[.string (gt l).1,.int .i64 (gt l).2.1,E])/\Hid (ErrIs w' E (gt l).2.2)/\Below w.heap.size w w':=by
 unfold gt
 by_cases hf:full l=true
 ·rw[if_pos hf]
  by_cases hu:utf (sb (gbs l))=true
  ·rw[if_pos hu]
   refine (get_ok v l w hv hf hu).mono ?_
   rintro e w' ⟨rfl,q,rfl⟩
   exact⟨_,rfl,.inl ⟨rfl,rfl⟩,below_q q⟩
  ·rw[if_neg hu]
   refine (get_form v l w hv hf (by simpa using hu)).mono ?_
   rintro e w' ⟨rfl,q,rfl⟩
   exact⟨_,rfl,fault_is 1 (w.drewN q),(below_q q).trans (fault_below 1 (w.drewN q))⟩
 ·rw[if_neg hf]
  refine (get_short v l w hv (by simpa using hf)).mono ?_
  rintro e w' ⟨rfl,q,rfl⟩
  exact⟨_,rfl,fault_is 3 (w.drewN q),(below_q q).trans (fault_below 3 (w.drewN q))⟩
theorem rget_short (v:Value) (l:List Int) (w:World) (hv:Byt w v l) (h:full l=false):Calls Tryz.prog 93 #[v] w fun e w'=>e=.returned (.tuple #[.string ⟨#[]⟩,.int .i64 0,.int .i64 3])/\Below w.heap.size w w':=by
 have HG:=zh (rgbin_short v l w hv h)
 have HV:=zh hv
 clear hv
 go_enter Tryz.func93,Tryz.ntmps93
 go_wp2_with (go_at_call 122;refine (uh HG).mono ?_;rintro e w' ⟨rfl,q,rfl⟩)
 go_ret3
 exact⟨rfl,below_q q⟩
theorem rget_ok (v:Value) (l:List Int) (w:World) (hv:Byt w v l) (h:full l=true) (hu:utf (sb (gbs l))=true):Calls Tryz.prog 93 #[v] w fun e w'=>e=.returned (.tuple #[.string (gbs l),.int .i64 (2+nb l:Nat),.int .i64 0])/\Below w.heap.size w w':=by
 have HG:=zh (rgbin_ok v l w hv h)
 have hz:=gbs_size l hv.range
 have HV:=zh hv
 clear hv
 generalize nb l=n at HG
 generalize gbs l=g at HG hz hu
 go_enter Tryz.func93,Tryz.ntmps93
 go_wp2_with (first | (go_at_call 122;refine (uh HG).mono ?_;rintro e w' ⟨rfl,q,rfl⟩;obtain⟨v2,w2,hrun,hby,hb⟩:=conv_str g (by unfold maxLen;omega) (w.drewN q);have HBY:=zh hby;have HB:=zh hb;clear hby hb) | (go_at_call 125;refine (rutf_any v2 (sb g) _ (uh HBY)).mono ?_;rintro e w' ⟨rfl,rfl⟩))
 go_ret3
 exact⟨rfl,(below_q q).trans (uh HB)⟩
theorem rget_form (v:Value) (l:List Int) (w:World) (hv:Byt w v l) (h:full l=true) (hu:utf (sb (gbs l))=false):Calls Tryz.prog 93 #[v] w fun e w'=>e=.returned (.tuple #[.string ⟨#[]⟩,.int .i64 0,.int .i64 1])/\Below w.heap.size w w':=by
 have HG:=zh (rgbin_ok v l w hv h)
 have hz:=gbs_size l hv.range
 have HV:=zh hv
 clear hv
 generalize nb l=n at HG
 generalize gbs l=g at HG hz hu
 go_enter Tryz.func93,Tryz.ntmps93
 go_wp2_with (first | (go_at_call 122;refine (uh HG).mono ?_;rintro e w' ⟨rfl,q,rfl⟩;obtain⟨v2,w2,hrun,hby,hb⟩:=conv_str g (by unfold maxLen;omega) (w.drewN q);have HBY:=zh hby;have HB:=zh hb;clear hby hb) | (go_at_call 125;refine (rutf_any v2 (sb g) _ (uh HBY)).mono ?_;rintro e w' ⟨rfl,rfl⟩))
 go_ret3
 exact⟨rfl,(below_q q).trans (uh HB)⟩
theorem rget_any (v:Value) (l:List Int) (w:World) (hv:Byt w v l):Calls Tryz.prog 93 #[v] w fun e w'=>e=.returned (.tuple #[.string (gt l).1,.int .i64 (gt l).2.1,.int .i64 (gt l).2.2])/\Below w.heap.size w w':=by
 unfold gt
 by_cases hf:full l=true
 ·rw[if_pos hf]
  by_cases hu:utf (sb (gbs l))=true
  ·rw[if_pos hu]
   exact rget_ok v l w hv hf hu
  ·rw[if_neg hu]
   exact rget_form v l w hv hf (by simpa using hu)
 ·rw[if_neg hf]
  exact rget_short v l w hv (by simpa using hf)
theorem conv_byt (w:World) (v:Value) (l:List Int) (h:Byt w v l):(convert 30 9 v).run Tryz.prog w=.ok (.string (bs l)) w:=by
 obtain⟨ao,cap,rfl,hlen,hr,hcase⟩:=h
 rcases hcase with rfl | ⟨b,off,rfl,hc⟩
 ·cases ao with
  | none =>
   rw[run_convert_bytes_string w 30 9 5 none _ cap Tryz.underlying30 Tryz.underlying5 Tryz.underlying9]
   rfl
  | some a =>
   exact run_convert_bytes_back (P:=Tryz.prog) w 30 9 5 a cap [] Tryz.underlying30 Tryz.underlying5 Tryz.underlying9 (fun j hj=>by simp at hj)
 ·exact conv_bytes w b off cap l hr hc
end Go.Proofs.YtpheelbbpiieiaaGreatDoor
namespace Go.Proofs.YtpheelbbpiieiaaGreatDoor.K
open Go.RowKit
theorem run_append_byt_at (w:World) (base:Nat) (ty:TypeId) (v:Value) (n:Nat) (xs:List Int) (hown:w.ownsRow base 5 1 v n (xs.map (Value.int .u8))) (vx:Value) (ys:List Int) (hy:Byt w vx ys)
  (hbytes:n+ys.length<=140737488355328) (hbase:base<=w.heap.size) :
  ∃ v' w',(Builtin.append_ #[30,30] ty #[v,vx]).run Tryz.prog w=.ok v' w'/\w'.ownsRow base 5 1 v' (n+ys.length) ((xs++ys).map (Value.int .u8))/\w.grownBy w' v.ownBlock/\(v'.ownBlock=v.ownBlock\/v'.ownBlock=some w.heap.size):=by
 obtain⟨i0,hi,hz0,hz1,hz2⟩:=info_parts Tryz.infoU8
 obtain⟨ao,cap,rfl,hlen,hr,hcase⟩:=hy
 have key:∀ (a:Addr),(∀ j,j < ys.length->w.cell? (a.add j)=some (.int .u8 (ys.getD j 0)))->∃ v' w',(Builtin.append_ #[30,30] ty #[v,.slice (some a) ys.length cap]).run Tryz.prog w=.ok v' w'/\w'.ownsRow base 5 1 v' (n+ys.length) ((xs++ys).map (Value.int .u8))/\w.grownBy w' v.ownBlock/\(v'.ownBlock=v.ownBlock\/v'.ownBlock=some w.heap.size):=by
  intro a ha
  obtain⟨v',w',h1,h2,h3,_,h4⟩:=run_append_own_at (P:=Tryz.prog) w base 30 ty 5 i0 (.int .u8 0) 1 1 Tryz.underlying30 hi hz0 hz1 hz2 rfl (by decide) v n _ hown a ys.length cap (ys.map (Value.int .u8)) (by simp)
   (fun j u hj=>by
    rw[List.getElem?_map]at hj
    by_cases hjl:j < ys.length
    ·rw[ha j hjl]
     rw[List.getElem?_eq_getElem hjl]at hj
     rw[List.getD_eq_getElem?_getD,List.getElem?_eq_getElem hjl]
     exact hj
    ·rw[List.getElem?_eq_none (by omega)]at hj;cases hj)
   (fun u hu=>by obtain⟨_,_,rfl⟩:=List.mem_map.1 hu;rfl) (by unfold maxLen;omega) (by omega) hbase
  exact⟨v',w',h1,by rw[List.map_append];exact h2,h3,h4⟩
 rcases hcase with rfl | ⟨b,off,rfl,hc⟩
 ·cases ao with
  | none =>
   refine⟨v,w,?_,?_,⟨rfl,rfl,rfl,Nat.le_refl _,fun _ _ _=>rfl⟩,.inl rfl⟩
   ·rcases hown.2 with⟨rfl,rfl⟩ | ⟨g,cap',cur,rfl,_,_,hnc,_⟩
    ·simp[Builtin.append_,run_underlying Tryz.underlying30,sizeOf,typeInfo,hi,Builtin.lenOf,Builtin.firstCells]
    ·simp[Builtin.append_,run_underlying Tryz.underlying30,sizeOf,typeInfo,hi,Builtin.lenOf,Builtin.firstCells,hnc,storeCells]
   ·simpa using hown
  | some a=>exact key a (fun j hj=>by simp at hj)
 ·exact key ⟨b,off,none⟩ (fun j hj=>by rw[addr_add];exact hc j hj)
theorem wpList_append_byt_at (w:World) {ops:Array Oper} {rest:List Oper} {o:Oper} {a:Act} {Q:Exit->Act->World->Prop} (hgd:o.guard=none) (s x:Operand)
  (ho:o.op=.call { callee:=.builtin .append,args:=#[s,x],argTypes:=#[30,30] })
  (base:Nat) (v:Value) (n:Nat) (xs:List Int) (hs:a.eval s=v) (hown:w.ownsRow base 5 1 v n (xs.map (Value.int .u8))) (vx:Value) (ys:List Int) (hx:a.eval x=vx) (hy:Byt w vx ys)
  (hbytes:n+ys.length<=140737488355328) (hbase:base<=w.heap.size)
  (h:∀ v' w',w'.ownsRow base 5 1 v' (n+ys.length) ((xs++ys).map (Value.int .u8))->w.grownBy w' v.ownBlock->(v'.ownBlock=v.ownBlock\/v'.ownBlock=some w.heap.size)->wpList Tryz.prog ops Q rest (a.put o.dst v') w'):wpList Tryz.prog ops Q (o :: rest) a w:=by
 refine wpList_plain hgd fun K hK=>?_
 obtain⟨v',w',hr,h2,h3,h4⟩:=run_append_byt_at w base o.type v n xs hown vx ys hy hbytes hbase
 unfold Oper.wp execOp
 simp only[ho,resolve,invoke,builtin,Sem.run_bind,Sem.run_pure,Result.andThen_ok,List.map_toArray,List.map_cons,List.map_nil,hs,hx,hr]
 exact hK _ _ (h v' w' h2 h3 h4)
end Go.Proofs.YtpheelbbpiieiaaGreatDoor.K
